/-
  The walk of CrcShort: at any bytes, cut and byte the law returns true, and nothing that was there is written.
-/
import Derived.Test.YtmkpeidgimgdlaaCd
namespace Go.Proofs.Ytmkpeidgimgdlaa.CrcShortW
open Go.ChangeShapes Go.WideShapes Go.ChangeAt Go.RowKit
open Bytes8 Blk8 Own8 LeNum LeA LeB LeP RefA RefB Numb Cm Ca Cb Cc Cd
set_option linter.unusedVariables false

theorem same_two (a b : Option Addr) (l : List Int) (n m c d : Nat) (w : World) (ha : Bytes w a l) (hb : Bytes w b l) (hn : l.length = n) (hm : l.length = m) :
    Calls Try.prog 28 #[.slice a n c, .slice b m d] w fun e w' => e = .returned (.bool true) ∧ w = w' := by
  obtain rfl : n = m := by omega
  exact same_yes a b l n c d w ha hb hn
theorem own_cap {w : World} {base n c : Nat} {A : Option Addr} {l : List Int} (h : Own w base A n c l) : n ≤ c ∧ c ≤ maxLen := by
  rcases h.2.2.2.2 with ⟨he, h0⟩ | ⟨g, cap, cur, he, _, _, h1, h2, _⟩
  · injection he with e1 e2 e3; subst e3; exact ⟨by omega, by decide⟩
  · injection he with e1 e2 e3; subst e3; exact ⟨h1, h2⟩
theorem one_all (x : Int) (h0 : 0 ≤ x) (h1 : x < 256) : AllB [x] := fun n hn => by simp at hn; omega

set_option maxRecDepth 100000 in
set_option maxHeartbeats 1000000 in
theorem walk_long (a0 : Option Addr) (len0 cap0 : Nat) (a1 a2 : Int) (w : World) (hlen : 300 < len0) :
    Calls Try.prog 10 #[.slice a0 len0 cap0, .int .i64 a1, .int .u8 a2] w fun e w' => e = .returned (.bool true) ∧ Below w.heap.size w w' := by
  have hd : decide ((300 : Int) < (len0 : Int)) = true := by simp; omega
  go_enter Try.func10, Try.ntmps10
  go_wp2_with (go_at_call 22; (with_reducible refine (first_any _).mono ?_); rintro e w1 ⟨rfl, hbel⟩)
  go_ret
  exact ⟨rfl, hbel⟩

/-- What opening tells of bytes m: x, of length nx, and the code. -/
abbrev Tells (m : List Int) (n : Nat) (x : List Int) (nx : Nat) (ec : Int) : Prop := ∀ W A c, Bytes W A m → n ≤ c → c ≤ maxLen → Calls Try.prog 23 #[.slice A n c] W (Opened x nx ec W)
theorem tells (m : List Int) (n : Nat) (hA : AllB m) (hn : m.length = n) (hmax : n ≤ 999000) :
    (Tells m n [] 0 22 ∧ n < 4) ∨ (∃ x nx, Tells m n x nx 0 ∧ 4 ≤ n ∧ sealL x = m ∧ x.length = nx ∧ nx + 4 = n) ∨ (Tells m n [] 0 19 ∧ 4 ≤ n) := by
  have h := fun W A c (hb : Bytes W A m) h1 h2 => open_any A m n c W hb hn hmax h1 h2
  by_cases h4 : n < 4
  · rw [openL_short (by omega), openE_short (by omega)] at h
    exact .inl ⟨h, h4⟩
  · by_cases hf : fitB m = true
    · rw [openL_fine (by omega) hf, openE_fine (by omega) hf] at h
      exact .inr (.inl ⟨_, _, h, by omega, seal_open m hA (by omega) hf, rfl, by simp; omega⟩)
    · have hf' : fitB m = false := by simpa using hf
      rw [openL_sum (by omega) hf', openE_sum (by omega) hf'] at h
      exact .inr (.inr ⟨h, by omega⟩)

set_option maxRecDepth 100000 in
set_option maxHeartbeats 16000000 in
theorem walk_main (a0 : Option Addr) (l : List Int) (len0 cap0 j : Nat) (a1 a2 : Int) (w : World) (hb : Bytes w a0 l) (hL : l.length = len0) (h0 : len0 ≤ 300) (hj : Hid (numBelow a1 ((len0 : Int) + 4 + 1) = j)) (hj2 : j ≤ len0 + 4) (v0 : 0 ≤ a2) (v1 : a2 < 256) :
    Calls Try.prog 10 #[.slice a0 len0 cap0, .int .i64 a1, .int .u8 a2] w fun e w' => e = .returned (.bool true) ∧ Below w.heap.size w w' := by
  have hd : decide ((300 : Int) < (len0 : Int)) = false := by simp; omega
  have HSA := Lib.hid (sealL_all hb.1)
  have HSL := Lib.hid (show (sealL l).length = len0 + 4 by rw [sealL_len, hL])
  have HSeal := Lib.hid fun W (h : Below w.heap.size w W) => seal_any a0 l len0 cap0 W (hb.below h (Nat.le_refl _)) hL (by omega)
  have HNum := Lib.hid fun W => number_nat a1 ((len0 : Int) + 4 + 1) j W (by omega) (by omega) hj.out
  have HOne := Lib.hid (one_all a2 v0 v1)
  have HSeal2 := Lib.hid fun (x : List Int) (A : Option Addr) (nx c : Nat) W (hx : Bytes W A x) (hn : x.length = nx) (h : nx ≤ 999000) => seal_any A x nx c W hx hn h
  have hmx : len0 + 4 ≤ maxLen := by unfold maxLen; omega
  have HMx := Lib.hid hmx
  clear hmx
  have t1 := tells ((sealL l).take j) j (HSA.out.take j) (by rw [List.length_take, HSL.out]; omega) (by omega)
  have t2 := tells (sealL l ++ [a2]) (len0 + 4 + 1) (HSA.out.app HOne.out) (by rw [List.length_append, HSL.out]; rfl) (by omega)
  have HDA := Lib.hid (HSA.out.app HOne.out)
  have HDL := Lib.hid (show (sealL l ++ [a2]).length = len0 + 4 + 1 by rw [List.length_append, HSL.out]; rfl)
  have HCL := Lib.hid (show ((sealL l).take j).length = j by rw [List.length_take, HSL.out]; omega)
  clear hb hL
  generalize sealL l = S at *
  rcases t1 with ⟨T1, hj4⟩ | ⟨x, nx, T1, hj4, hx, hxl, hnx⟩ | ⟨T1, hj4⟩
  · have hdj : decide ((j : Int) < 4) = true := by simp; omega
    have hdj2 : decide ((4 : Int) ≤ (j : Int)) = false := by simp; omega
    have HT1 := Lib.hid T1
    clear T1
    rcases t2 with ⟨T2, hj5⟩ | ⟨y, ny, T2, hj5, hy, hyl, hny⟩ | ⟨T2, hj5⟩
    · omega
    · have HT2 := Lib.hid T2
      have HY := Lib.hid hy
      have HYL := Lib.hid hyl
      have HYN := Lib.hid hny
      clear T2 hy hyl hny
      go_enter Try.func10, Try.ntmps10
      go_wp2_with (first
        | (go_at_call 22; (with_reducible refine (first_any _).mono ?_); rintro e w1 ⟨rfl, hbel⟩; have HN1 := Lib.hid hbel; clear hbel)
        | (go_at_call 29; (with_reducible refine (HSeal.out _ HN1.out).mono ?_); rintro e w2 ⟨rfl, hr2, hbel2⟩; have HN2 := Lib.hid (HN1.out.trans (hbel2.mono HN1.out.size)); have HS2 := Lib.hid (hr2.bytes HSA.out); clear hr2 hbel2)
        | (go_at_call 21; (with_reducible refine (HNum.out _).mono ?_); rintro e w' ⟨rfl, rfl⟩)
        | (go_at_call 23; (with_reducible refine (HT1.out _ _ _ (bytes_take HS2.out j) (by omega) HMx.out).mono ?_); rintro e w3 ⟨A3, c3, rfl, hb3, hbel3⟩; have HN3 := Lib.hid (HN2.out.trans (hbel3.mono HN2.out.size)); have HX3 := Lib.hid hb3; have HS3 := Lib.hid (HS2.out.below hbel3 (Nat.le_refl _)); clear hb3 hbel3)
        | (go_at_call 31; (with_reducible refine (bytes_any _ S (len0 + 4) (len0 + 4) _ HS3.out HSL.out (by omega)).mono ?_); rintro e w4 ⟨A4, c4, rfl, ho4, hbel4⟩; have HV4 := Lib.hid hbel4; have HO4 := Lib.hid ho4; clear ho4 hbel4)
        | (at_builtin; refine wpList_append_bytes rfl (.tmp 37) (.tmp 39) rfl w3.heap.size A4 (len0 + 4) c4 S rfl (HO4.out.alloc _) (some ⟨w4.heap.size, 0, none⟩) 1 1 [a2] rfl (Blk.bytes (l := [a2]) (T := 5) (Blk.new _ [.int .u8 a2] _) HOne.out) rfl (by omega) ?_; intro A5 c5 w5 ho5 hbel5; have HV5 := Lib.hid ((HV4.out.alloc HV4.out.size _).trans hbel5); have HN5 := Lib.hid (HN3.out.trans (HV5.out.mono HN3.out.size)); have HX5 := Lib.hid (HX3.out.below HV5.out (Nat.le_refl _)); have HS5 := Lib.hid (HS3.out.below HV5.out (Nat.le_refl _)); have HO5 := Lib.hid ho5; have hc5 := own_cap ho5; have HC5 := Lib.hid hc5; clear ho5 hbel5 hc5)
        | (go_at_call 23; (with_reducible refine (HT2.out _ _ _ HO5.out.bytes HC5.out.1 HC5.out.2).mono ?_); rintro e w6 ⟨A6, c6, rfl, hb6, hbel6⟩; have HN6 := Lib.hid (HN5.out.trans (hbel6.mono HN5.out.size)); have HY6 := Lib.hid hb6; have HX6 := Lib.hid (HX5.out.below hbel6 (Nat.le_refl _)); have HS6 := Lib.hid (HS5.out.below hbel6 (Nat.le_refl _)); clear hb6 hbel6)
        | (go_at_call 29; (with_reducible refine (HSeal2.out y A6 ny c6 _ HY6.out HYL.out (by have := HYN.out; omega)).mono ?_); rintro e w8 ⟨rfl, hr8, hbel8⟩; rw [HY.out] at hr8; have HN8 := Lib.hid (HN6.out.trans (hbel8.mono HN6.out.size)); have HQ8 := Lib.hid (hr8.bytes HDA.out); have HS8 := Lib.hid (HS6.out.below hbel8 (Nat.le_refl _)); clear hr8 hbel8)
        | (go_at_call 31; (with_reducible refine (bytes_any _ S (len0 + 4) (len0 + 4) _ HS8.out HSL.out (by omega)).mono ?_); rintro e w9 ⟨A9, c9, rfl, ho9, hbel9⟩; have HV9 := Lib.hid hbel9; have HO9 := Lib.hid ho9; clear ho9 hbel9)
        | (at_builtin; refine wpList_append_want (by rfl) (.tmp 85) (.tmp 87) rfl w8.heap.size A9 (len0 + 4) c9 S rfl (HO9.out.alloc _) (some ⟨w9.heap.size, 0, none⟩) 1 1 [a2] rfl (Blk.bytes (l := [a2]) (T := 5) (Blk.new _ [.int .u8 a2] _) HOne.out) rfl (by omega) ?_; intro A10 c10 w10 ho10 hbel10; have HV10 := Lib.hid ((HV9.out.alloc HV9.out.size _).trans hbel10); have HN10 := Lib.hid (HN8.out.trans (HV10.out.mono HN8.out.size)); have HQ10 := Lib.hid (HQ8.out.below HV10.out (Nat.le_refl _)); have HO10 := Lib.hid ho10; clear ho10 hbel10)
        | (go_at_call 28; (with_reducible refine (same_two _ _ _ _ _ _ _ _ HQ10.out HO10.out.bytes (by rw [HDL.out]; have := HYN.out; omega) HDL.out).mono ?_); rintro e w' ⟨rfl, rfl⟩))
      go_ret
      exact ⟨rfl, HN10.out⟩
    · have HT2 := Lib.hid T2
      clear T2
      go_enter Try.func10, Try.ntmps10
      go_wp2_with (first
        | (go_at_call 22; (with_reducible refine (first_any _).mono ?_); rintro e w1 ⟨rfl, hbel⟩; have HN1 := Lib.hid hbel; clear hbel)
        | (go_at_call 29; (with_reducible refine (HSeal.out _ HN1.out).mono ?_); rintro e w2 ⟨rfl, hr2, hbel2⟩; have HN2 := Lib.hid (HN1.out.trans (hbel2.mono HN1.out.size)); have HS2 := Lib.hid (hr2.bytes HSA.out); clear hr2 hbel2)
        | (go_at_call 21; (with_reducible refine (HNum.out _).mono ?_); rintro e w' ⟨rfl, rfl⟩)
        | (go_at_call 23; (with_reducible refine (HT1.out _ _ _ (bytes_take HS2.out j) (by omega) HMx.out).mono ?_); rintro e w3 ⟨A3, c3, rfl, hb3, hbel3⟩; have HN3 := Lib.hid (HN2.out.trans (hbel3.mono HN2.out.size)); have HX3 := Lib.hid hb3; have HS3 := Lib.hid (HS2.out.below hbel3 (Nat.le_refl _)); clear hb3 hbel3)
        | (go_at_call 31; (with_reducible refine (bytes_any _ S (len0 + 4) (len0 + 4) _ HS3.out HSL.out (by omega)).mono ?_); rintro e w4 ⟨A4, c4, rfl, ho4, hbel4⟩; have HV4 := Lib.hid hbel4; have HO4 := Lib.hid ho4; clear ho4 hbel4)
        | (at_builtin; refine wpList_append_bytes rfl (.tmp 37) (.tmp 39) rfl w3.heap.size A4 (len0 + 4) c4 S rfl (HO4.out.alloc _) (some ⟨w4.heap.size, 0, none⟩) 1 1 [a2] rfl (Blk.bytes (l := [a2]) (T := 5) (Blk.new _ [.int .u8 a2] _) HOne.out) rfl (by omega) ?_; intro A5 c5 w5 ho5 hbel5; have HV5 := Lib.hid ((HV4.out.alloc HV4.out.size _).trans hbel5); have HN5 := Lib.hid (HN3.out.trans (HV5.out.mono HN3.out.size)); have HX5 := Lib.hid (HX3.out.below HV5.out (Nat.le_refl _)); have HS5 := Lib.hid (HS3.out.below HV5.out (Nat.le_refl _)); have HO5 := Lib.hid ho5; have hc5 := own_cap ho5; have HC5 := Lib.hid hc5; clear ho5 hbel5 hc5)
        | (go_at_call 23; (with_reducible refine (HT2.out _ _ _ HO5.out.bytes HC5.out.1 HC5.out.2).mono ?_); rintro e w6 ⟨A6, c6, rfl, hb6, hbel6⟩; have HN6 := Lib.hid (HN5.out.trans (hbel6.mono HN5.out.size)); have HY6 := Lib.hid hb6; have HX6 := Lib.hid (HX5.out.below hbel6 (Nat.le_refl _)); have HS6 := Lib.hid (HS5.out.below hbel6 (Nat.le_refl _)); clear hb6 hbel6))
      go_ret
      exact ⟨rfl, HN6.out⟩
  · have hdj : decide ((j : Int) < 4) = false := by simp; omega
    have hdj2 : decide ((4 : Int) ≤ (j : Int)) = true := by simp; omega
    have HT1 := Lib.hid T1
    clear T1
    have HX := Lib.hid hx
    have HXL := Lib.hid hxl
    have HXN := Lib.hid hnx
    clear hx hxl hnx
    rcases t2 with ⟨T2, hj5⟩ | ⟨y, ny, T2, hj5, hy, hyl, hny⟩ | ⟨T2, hj5⟩
    · omega
    · have HT2 := Lib.hid T2
      have HY := Lib.hid hy
      have HYL := Lib.hid hyl
      have HYN := Lib.hid hny
      clear T2 hy hyl hny
      go_enter Try.func10, Try.ntmps10
      go_wp2_with (first
        | (go_at_call 22; (with_reducible refine (first_any _).mono ?_); rintro e w1 ⟨rfl, hbel⟩; have HN1 := Lib.hid hbel; clear hbel)
        | (go_at_call 29; (with_reducible refine (HSeal.out _ HN1.out).mono ?_); rintro e w2 ⟨rfl, hr2, hbel2⟩; have HN2 := Lib.hid (HN1.out.trans (hbel2.mono HN1.out.size)); have HS2 := Lib.hid (hr2.bytes HSA.out); clear hr2 hbel2)
        | (go_at_call 21; (with_reducible refine (HNum.out _).mono ?_); rintro e w' ⟨rfl, rfl⟩)
        | (go_at_call 23; (with_reducible refine (HT1.out _ _ _ (bytes_take HS2.out j) (by omega) HMx.out).mono ?_); rintro e w3 ⟨A3, c3, rfl, hb3, hbel3⟩; have HN3 := Lib.hid (HN2.out.trans (hbel3.mono HN2.out.size)); have HX3 := Lib.hid hb3; have HS3 := Lib.hid (HS2.out.below hbel3 (Nat.le_refl _)); clear hb3 hbel3)
        | (go_at_call 31; (with_reducible refine (bytes_any _ S (len0 + 4) (len0 + 4) _ HS3.out HSL.out (by omega)).mono ?_); rintro e w4 ⟨A4, c4, rfl, ho4, hbel4⟩; have HV4 := Lib.hid hbel4; have HO4 := Lib.hid ho4; clear ho4 hbel4)
        | (at_builtin; refine wpList_append_bytes rfl (.tmp 37) (.tmp 39) rfl w3.heap.size A4 (len0 + 4) c4 S rfl (HO4.out.alloc _) (some ⟨w4.heap.size, 0, none⟩) 1 1 [a2] rfl (Blk.bytes (l := [a2]) (T := 5) (Blk.new _ [.int .u8 a2] _) HOne.out) rfl (by omega) ?_; intro A5 c5 w5 ho5 hbel5; have HV5 := Lib.hid ((HV4.out.alloc HV4.out.size _).trans hbel5); have HN5 := Lib.hid (HN3.out.trans (HV5.out.mono HN3.out.size)); have HX5 := Lib.hid (HX3.out.below HV5.out (Nat.le_refl _)); have HS5 := Lib.hid (HS3.out.below HV5.out (Nat.le_refl _)); have HO5 := Lib.hid ho5; have hc5 := own_cap ho5; have HC5 := Lib.hid hc5; clear ho5 hbel5 hc5)
        | (go_at_call 23; (with_reducible refine (HT2.out _ _ _ HO5.out.bytes HC5.out.1 HC5.out.2).mono ?_); rintro e w6 ⟨A6, c6, rfl, hb6, hbel6⟩; have HN6 := Lib.hid (HN5.out.trans (hbel6.mono HN5.out.size)); have HY6 := Lib.hid hb6; have HX6 := Lib.hid (HX5.out.below hbel6 (Nat.le_refl _)); have HS6 := Lib.hid (HS5.out.below hbel6 (Nat.le_refl _)); clear hb6 hbel6)
        | (go_at_call 29; (with_reducible refine (HSeal2.out x A3 nx c3 _ HX6.out HXL.out (by have := HXN.out; omega)).mono ?_); rintro e w7 ⟨rfl, hr7, hbel7⟩; rw [HX.out] at hr7; have HN7 := Lib.hid (HN6.out.trans (hbel7.mono HN6.out.size)); have HQ7 := Lib.hid (hr7.bytes (HSA.out.take j)); have HS7 := Lib.hid (HS6.out.below hbel7 (Nat.le_refl _)); have HY7 := Lib.hid (HY6.out.below hbel7 (Nat.le_refl _)); clear hr7 hbel7)
        | (go_at_call 28; (with_reducible refine (same_two _ _ _ _ _ _ _ _ HQ7.out (bytes_take HS7.out j) (by rw [HCL.out]; have := HXN.out; omega) HCL.out).mono ?_); rintro e w' ⟨rfl, rfl⟩)
        | (go_at_call 29; (with_reducible refine (HSeal2.out y A6 ny c6 _ HY7.out HYL.out (by have := HYN.out; omega)).mono ?_); rintro e w8 ⟨rfl, hr8, hbel8⟩; rw [HY.out] at hr8; have HN8 := Lib.hid (HN7.out.trans (hbel8.mono HN7.out.size)); have HQ8 := Lib.hid (hr8.bytes HDA.out); have HS8 := Lib.hid (HS7.out.below hbel8 (Nat.le_refl _)); clear hr8 hbel8)
        | (go_at_call 31; (with_reducible refine (bytes_any _ S (len0 + 4) (len0 + 4) _ HS8.out HSL.out (by omega)).mono ?_); rintro e w9 ⟨A9, c9, rfl, ho9, hbel9⟩; have HV9 := Lib.hid hbel9; have HO9 := Lib.hid ho9; clear ho9 hbel9)
        | (at_builtin; refine wpList_append_want (by rfl) (.tmp 85) (.tmp 87) rfl w8.heap.size A9 (len0 + 4) c9 S rfl (HO9.out.alloc _) (some ⟨w9.heap.size, 0, none⟩) 1 1 [a2] rfl (Blk.bytes (l := [a2]) (T := 5) (Blk.new _ [.int .u8 a2] _) HOne.out) rfl (by omega) ?_; intro A10 c10 w10 ho10 hbel10; have HV10 := Lib.hid ((HV9.out.alloc HV9.out.size _).trans hbel10); have HN10 := Lib.hid (HN8.out.trans (HV10.out.mono HN8.out.size)); have HQ10 := Lib.hid (HQ8.out.below HV10.out (Nat.le_refl _)); have HO10 := Lib.hid ho10; clear ho10 hbel10)
        | (go_at_call 28; (with_reducible refine (same_two _ _ _ _ _ _ _ _ HQ10.out HO10.out.bytes (by rw [HDL.out]; have := HYN.out; omega) HDL.out).mono ?_); rintro e w' ⟨rfl, rfl⟩))
      go_ret
      exact ⟨rfl, HN10.out⟩
    · have HT2 := Lib.hid T2
      clear T2
      go_enter Try.func10, Try.ntmps10
      go_wp2_with (first
        | (go_at_call 22; (with_reducible refine (first_any _).mono ?_); rintro e w1 ⟨rfl, hbel⟩; have HN1 := Lib.hid hbel; clear hbel)
        | (go_at_call 29; (with_reducible refine (HSeal.out _ HN1.out).mono ?_); rintro e w2 ⟨rfl, hr2, hbel2⟩; have HN2 := Lib.hid (HN1.out.trans (hbel2.mono HN1.out.size)); have HS2 := Lib.hid (hr2.bytes HSA.out); clear hr2 hbel2)
        | (go_at_call 21; (with_reducible refine (HNum.out _).mono ?_); rintro e w' ⟨rfl, rfl⟩)
        | (go_at_call 23; (with_reducible refine (HT1.out _ _ _ (bytes_take HS2.out j) (by omega) HMx.out).mono ?_); rintro e w3 ⟨A3, c3, rfl, hb3, hbel3⟩; have HN3 := Lib.hid (HN2.out.trans (hbel3.mono HN2.out.size)); have HX3 := Lib.hid hb3; have HS3 := Lib.hid (HS2.out.below hbel3 (Nat.le_refl _)); clear hb3 hbel3)
        | (go_at_call 31; (with_reducible refine (bytes_any _ S (len0 + 4) (len0 + 4) _ HS3.out HSL.out (by omega)).mono ?_); rintro e w4 ⟨A4, c4, rfl, ho4, hbel4⟩; have HV4 := Lib.hid hbel4; have HO4 := Lib.hid ho4; clear ho4 hbel4)
        | (at_builtin; refine wpList_append_bytes rfl (.tmp 37) (.tmp 39) rfl w3.heap.size A4 (len0 + 4) c4 S rfl (HO4.out.alloc _) (some ⟨w4.heap.size, 0, none⟩) 1 1 [a2] rfl (Blk.bytes (l := [a2]) (T := 5) (Blk.new _ [.int .u8 a2] _) HOne.out) rfl (by omega) ?_; intro A5 c5 w5 ho5 hbel5; have HV5 := Lib.hid ((HV4.out.alloc HV4.out.size _).trans hbel5); have HN5 := Lib.hid (HN3.out.trans (HV5.out.mono HN3.out.size)); have HX5 := Lib.hid (HX3.out.below HV5.out (Nat.le_refl _)); have HS5 := Lib.hid (HS3.out.below HV5.out (Nat.le_refl _)); have HO5 := Lib.hid ho5; have hc5 := own_cap ho5; have HC5 := Lib.hid hc5; clear ho5 hbel5 hc5)
        | (go_at_call 23; (with_reducible refine (HT2.out _ _ _ HO5.out.bytes HC5.out.1 HC5.out.2).mono ?_); rintro e w6 ⟨A6, c6, rfl, hb6, hbel6⟩; have HN6 := Lib.hid (HN5.out.trans (hbel6.mono HN5.out.size)); have HY6 := Lib.hid hb6; have HX6 := Lib.hid (HX5.out.below hbel6 (Nat.le_refl _)); have HS6 := Lib.hid (HS5.out.below hbel6 (Nat.le_refl _)); clear hb6 hbel6)
        | (go_at_call 29; (with_reducible refine (HSeal2.out x A3 nx c3 _ HX6.out HXL.out (by have := HXN.out; omega)).mono ?_); rintro e w7 ⟨rfl, hr7, hbel7⟩; rw [HX.out] at hr7; have HN7 := Lib.hid (HN6.out.trans (hbel7.mono HN6.out.size)); have HQ7 := Lib.hid (hr7.bytes (HSA.out.take j)); have HS7 := Lib.hid (HS6.out.below hbel7 (Nat.le_refl _)); have HY7 := Lib.hid (HY6.out.below hbel7 (Nat.le_refl _)); clear hr7 hbel7)
        | (go_at_call 28; (with_reducible refine (same_two _ _ _ _ _ _ _ _ HQ7.out (bytes_take HS7.out j) (by rw [HCL.out]; have := HXN.out; omega) HCL.out).mono ?_); rintro e w' ⟨rfl, rfl⟩))
      go_ret
      exact ⟨rfl, HN7.out⟩
  · have hdj : decide ((j : Int) < 4) = false := by simp; omega
    have hdj2 : decide ((4 : Int) ≤ (j : Int)) = true := by simp; omega
    have HT1 := Lib.hid T1
    clear T1
    rcases t2 with ⟨T2, hj5⟩ | ⟨y, ny, T2, hj5, hy, hyl, hny⟩ | ⟨T2, hj5⟩
    · omega
    · have HT2 := Lib.hid T2
      have HY := Lib.hid hy
      have HYL := Lib.hid hyl
      have HYN := Lib.hid hny
      clear T2 hy hyl hny
      go_enter Try.func10, Try.ntmps10
      go_wp2_with (first
        | (go_at_call 22; (with_reducible refine (first_any _).mono ?_); rintro e w1 ⟨rfl, hbel⟩; have HN1 := Lib.hid hbel; clear hbel)
        | (go_at_call 29; (with_reducible refine (HSeal.out _ HN1.out).mono ?_); rintro e w2 ⟨rfl, hr2, hbel2⟩; have HN2 := Lib.hid (HN1.out.trans (hbel2.mono HN1.out.size)); have HS2 := Lib.hid (hr2.bytes HSA.out); clear hr2 hbel2)
        | (go_at_call 21; (with_reducible refine (HNum.out _).mono ?_); rintro e w' ⟨rfl, rfl⟩)
        | (go_at_call 23; (with_reducible refine (HT1.out _ _ _ (bytes_take HS2.out j) (by omega) HMx.out).mono ?_); rintro e w3 ⟨A3, c3, rfl, hb3, hbel3⟩; have HN3 := Lib.hid (HN2.out.trans (hbel3.mono HN2.out.size)); have HX3 := Lib.hid hb3; have HS3 := Lib.hid (HS2.out.below hbel3 (Nat.le_refl _)); clear hb3 hbel3)
        | (go_at_call 31; (with_reducible refine (bytes_any _ S (len0 + 4) (len0 + 4) _ HS3.out HSL.out (by omega)).mono ?_); rintro e w4 ⟨A4, c4, rfl, ho4, hbel4⟩; have HV4 := Lib.hid hbel4; have HO4 := Lib.hid ho4; clear ho4 hbel4)
        | (at_builtin; refine wpList_append_bytes rfl (.tmp 37) (.tmp 39) rfl w3.heap.size A4 (len0 + 4) c4 S rfl (HO4.out.alloc _) (some ⟨w4.heap.size, 0, none⟩) 1 1 [a2] rfl (Blk.bytes (l := [a2]) (T := 5) (Blk.new _ [.int .u8 a2] _) HOne.out) rfl (by omega) ?_; intro A5 c5 w5 ho5 hbel5; have HV5 := Lib.hid ((HV4.out.alloc HV4.out.size _).trans hbel5); have HN5 := Lib.hid (HN3.out.trans (HV5.out.mono HN3.out.size)); have HX5 := Lib.hid (HX3.out.below HV5.out (Nat.le_refl _)); have HS5 := Lib.hid (HS3.out.below HV5.out (Nat.le_refl _)); have HO5 := Lib.hid ho5; have hc5 := own_cap ho5; have HC5 := Lib.hid hc5; clear ho5 hbel5 hc5)
        | (go_at_call 23; (with_reducible refine (HT2.out _ _ _ HO5.out.bytes HC5.out.1 HC5.out.2).mono ?_); rintro e w6 ⟨A6, c6, rfl, hb6, hbel6⟩; have HN6 := Lib.hid (HN5.out.trans (hbel6.mono HN5.out.size)); have HY6 := Lib.hid hb6; have HX6 := Lib.hid (HX5.out.below hbel6 (Nat.le_refl _)); have HS6 := Lib.hid (HS5.out.below hbel6 (Nat.le_refl _)); clear hb6 hbel6)
        | (go_at_call 29; (with_reducible refine (HSeal2.out y A6 ny c6 _ HY6.out HYL.out (by have := HYN.out; omega)).mono ?_); rintro e w8 ⟨rfl, hr8, hbel8⟩; rw [HY.out] at hr8; have HN8 := Lib.hid (HN6.out.trans (hbel8.mono HN6.out.size)); have HQ8 := Lib.hid (hr8.bytes HDA.out); have HS8 := Lib.hid (HS6.out.below hbel8 (Nat.le_refl _)); clear hr8 hbel8)
        | (go_at_call 31; (with_reducible refine (bytes_any _ S (len0 + 4) (len0 + 4) _ HS8.out HSL.out (by omega)).mono ?_); rintro e w9 ⟨A9, c9, rfl, ho9, hbel9⟩; have HV9 := Lib.hid hbel9; have HO9 := Lib.hid ho9; clear ho9 hbel9)
        | (at_builtin; refine wpList_append_want (by rfl) (.tmp 85) (.tmp 87) rfl w8.heap.size A9 (len0 + 4) c9 S rfl (HO9.out.alloc _) (some ⟨w9.heap.size, 0, none⟩) 1 1 [a2] rfl (Blk.bytes (l := [a2]) (T := 5) (Blk.new _ [.int .u8 a2] _) HOne.out) rfl (by omega) ?_; intro A10 c10 w10 ho10 hbel10; have HV10 := Lib.hid ((HV9.out.alloc HV9.out.size _).trans hbel10); have HN10 := Lib.hid (HN8.out.trans (HV10.out.mono HN8.out.size)); have HQ10 := Lib.hid (HQ8.out.below HV10.out (Nat.le_refl _)); have HO10 := Lib.hid ho10; clear ho10 hbel10)
        | (go_at_call 28; (with_reducible refine (same_two _ _ _ _ _ _ _ _ HQ10.out HO10.out.bytes (by rw [HDL.out]; have := HYN.out; omega) HDL.out).mono ?_); rintro e w' ⟨rfl, rfl⟩))
      go_ret
      exact ⟨rfl, HN10.out⟩
    · have HT2 := Lib.hid T2
      clear T2
      go_enter Try.func10, Try.ntmps10
      go_wp2_with (first
        | (go_at_call 22; (with_reducible refine (first_any _).mono ?_); rintro e w1 ⟨rfl, hbel⟩; have HN1 := Lib.hid hbel; clear hbel)
        | (go_at_call 29; (with_reducible refine (HSeal.out _ HN1.out).mono ?_); rintro e w2 ⟨rfl, hr2, hbel2⟩; have HN2 := Lib.hid (HN1.out.trans (hbel2.mono HN1.out.size)); have HS2 := Lib.hid (hr2.bytes HSA.out); clear hr2 hbel2)
        | (go_at_call 21; (with_reducible refine (HNum.out _).mono ?_); rintro e w' ⟨rfl, rfl⟩)
        | (go_at_call 23; (with_reducible refine (HT1.out _ _ _ (bytes_take HS2.out j) (by omega) HMx.out).mono ?_); rintro e w3 ⟨A3, c3, rfl, hb3, hbel3⟩; have HN3 := Lib.hid (HN2.out.trans (hbel3.mono HN2.out.size)); have HX3 := Lib.hid hb3; have HS3 := Lib.hid (HS2.out.below hbel3 (Nat.le_refl _)); clear hb3 hbel3)
        | (go_at_call 31; (with_reducible refine (bytes_any _ S (len0 + 4) (len0 + 4) _ HS3.out HSL.out (by omega)).mono ?_); rintro e w4 ⟨A4, c4, rfl, ho4, hbel4⟩; have HV4 := Lib.hid hbel4; have HO4 := Lib.hid ho4; clear ho4 hbel4)
        | (at_builtin; refine wpList_append_bytes rfl (.tmp 37) (.tmp 39) rfl w3.heap.size A4 (len0 + 4) c4 S rfl (HO4.out.alloc _) (some ⟨w4.heap.size, 0, none⟩) 1 1 [a2] rfl (Blk.bytes (l := [a2]) (T := 5) (Blk.new _ [.int .u8 a2] _) HOne.out) rfl (by omega) ?_; intro A5 c5 w5 ho5 hbel5; have HV5 := Lib.hid ((HV4.out.alloc HV4.out.size _).trans hbel5); have HN5 := Lib.hid (HN3.out.trans (HV5.out.mono HN3.out.size)); have HX5 := Lib.hid (HX3.out.below HV5.out (Nat.le_refl _)); have HS5 := Lib.hid (HS3.out.below HV5.out (Nat.le_refl _)); have HO5 := Lib.hid ho5; have hc5 := own_cap ho5; have HC5 := Lib.hid hc5; clear ho5 hbel5 hc5)
        | (go_at_call 23; (with_reducible refine (HT2.out _ _ _ HO5.out.bytes HC5.out.1 HC5.out.2).mono ?_); rintro e w6 ⟨A6, c6, rfl, hb6, hbel6⟩; have HN6 := Lib.hid (HN5.out.trans (hbel6.mono HN5.out.size)); have HY6 := Lib.hid hb6; have HX6 := Lib.hid (HX5.out.below hbel6 (Nat.le_refl _)); have HS6 := Lib.hid (HS5.out.below hbel6 (Nat.le_refl _)); clear hb6 hbel6))
      go_ret
      exact ⟨rfl, HN6.out⟩

theorem walk (a0 : Option Addr) (len0 cap0 : Nat) (z0 : List Int) (a1 a2 : Int) (w : World) (w0 : IsRow .u8 w a0 len0 cap0 z0) (w1 : (Lit.int .i64 a1).wf = true) (w2 : (Lit.int .u8 a2).wf = true) :
    Calls Try.prog 10 #[.slice a0 len0 cap0, .int .i64 a1, .int .u8 a2] w fun e w' => e = .returned (.bool true) ∧ Below w.heap.size w w' := by
  obtain ⟨hb, hL, hcap, hmax, _⟩ := w0.bytes
  obtain ⟨v0, v1⟩ := bounds_u8 w2
  by_cases h1 : 300 < len0
  · exact walk_long a0 len0 cap0 a1 a2 w h1
  · obtain ⟨j, HJ, hj⟩ := below_nat a1 ((len0 : Int) + 4 + 1) (by omega)
    exact walk_main a0 _ len0 cap0 j a1 a2 w hb hL (by omega) HJ (by omega) v0 (by omega)
end Go.Proofs.Ytmkpeidgimgdlaa.CrcShortW
