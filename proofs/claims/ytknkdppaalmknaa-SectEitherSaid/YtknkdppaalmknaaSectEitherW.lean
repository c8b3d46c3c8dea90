/-
  The walk of SectEither: at any places, any rows of bytes and any two numbers the law returns true, and nothing that was there is written.
-/
import Derived.Test.YtknkdppaalmknaaSfg
import Derived.Test.YtknkdppaalmknaaKeep
import Derived.Test.YtknkdppaalmknaaRows2
import Derived.BigQuiet
namespace Go.Proofs.Ytknkdppaalmknaa.SectEitherW
open Go.ChangeShapes Go.WideShapes Go.ChangeAt Go.RowKit
open Bytes8 Blk8 Own8 OwnM OwnA OwnE Kf Ta Fa Sfa Sfb Sfc Sfd Sfe Sfg Rows2 Do8 Numb Keep8
set_option linter.unusedVariables false
set_option linter.unusedSimpArgs false

theorem keep_ones (w : World) : Calls Try.prog 27 #[.int .u64 18446744073709551615] w fun e w' => ∃ A c, e = .returned (.slice A 64 c) ∧ OwnE 4 1 w' w.heap.size A 64 c (bitsV 18446744073709551615 64) ∧ Below w.heap.size w w' := keep_any 18446744073709551615 (by decide) w
theorem crash_zero (now safe : List Int) (K : Nat → Bool) : crash now safe (kept 0 K) = safe := crash_none fun i _ => by unfold kept; simp
theorem crash_ones {now safe : List Int} (h : (dirty now safe).length ≤ 64) : crash now safe (kept 64 fun i => (18446744073709551615 : Nat).testBit i) = now := crash_every fun i hi => by
  have h1 : (18446744073709551615 : Nat).testBit i = decide (i < 64) := Nat.testBit_two_pow_sub_one 64 i
  show (decide (i < 64) && (18446744073709551615 : Nat).testBit i) = true
  rw [h1, decide_eq_true (by omega)]; rfl
theorem bit_zero (n k : Nat) (hn : n < 18446744073709551616) : (bits .and .u64 ((n : Int) / 2 ^ k) 1 == 0) = !n.testBit k := by
  have e : ((n : Int) / 2 ^ k) = ((n / 2 ^ k : Nat) : Int) := by rw [Int.natCast_ediv, Int.natCast_pow]; rfl
  have hlt : n / 2 ^ k < 18446744073709551616 := Nat.lt_of_le_of_lt (Nat.div_le_self _ _) hn
  rw [e, show (1 : Int) = ((1 : Nat) : Int) from rfl, u64_and_nat _ 1 hlt (by decide), Nat.and_one_is_mod, Nat.testBit_eq_decide_div_mod_eq]
  rcases Nat.mod_two_eq_zero_or_one (n / 2 ^ k) with h | h <;> rw [h] <;> rfl
theorem no_bools (w : World) (K : Nat → Bool) : InBools w none 0 K := fun i hi => absurd hi (by omega)
theorem off_ranges {F G : Nat → Prop} (h : ∀ k, F k → G k → False) : Off F G := fun k h1 h2 => h k h1 h2

set_option maxRecDepth 100000 in
set_option maxHeartbeats 1000000 in
theorem walk_long (a0 : Option Addr) (len0 cap0 : Nat) (a1 : Option Addr) (len1 cap1 : Nat) (a2 a3 : Int) (w : World) (h : 10 < len1 ∨ len0 < len1) (hl0 : len0 ≤ 9223372036854775807) (hl1 : len1 ≤ 9223372036854775807) :
    Calls Try.prog 4 #[.slice a0 len0 cap0, .slice a1 len1 cap1, .int .i64 a2, .int .u64 a3] w fun e w' => e = .returned (.bool true) ∧ Below w.heap.size w w' := by
  by_cases h1 : 10 < len1
  · have hd1 : decide ((10 : Int) < (len1 : Int)) = true := by simp; omega
    go_enter Try.func4, Try.ntmps4
    go_wp2_with (go_at_call 7; (with_reducible refine (first_any _).mono ?_); rintro e w1 ⟨rfl, hbel⟩)
    go_ret
    exact ⟨rfl, hbel⟩
  · have hd1 : decide ((10 : Int) < (len1 : Int)) = false := by simp; omega
    have hd2 : decide ((len0 : Int) < (len1 : Int)) = true := by simp; omega
    go_enter Try.func4, Try.ntmps4
    go_wp2_with (go_at_call 7; (with_reducible refine (first_any _).mono ?_); rintro e w1 ⟨rfl, hbel⟩)
    go_ret
    exact ⟨rfl, hbel⟩

set_option maxRecDepth 100000 in
set_option maxHeartbeats 8000000 in
theorem walk_in (a0 : Option Addr) (len0 cap0 : Nat) (f : Nat → Int) (a1 : Option Addr) (len1 cap1 : Nat) (A : Nat → Option Addr) (L C : Nat → Nat) (P : Nat → List Int) (a2 : Int) (n : Nat) (w : World) (w0 : InInts .i64 w a0 len0 f) (w1 : InRows w a1 len1 A L C P) (hn : n < 18446744073709551616)
    (h10 : len1 ≤ 10) (h01 : len1 ≤ len0) (hl0 : len0 ≤ 9223372036854775807) :
    Calls Try.prog 4 #[.slice a0 len0 cap0, .slice a1 len1 cap1, .int .i64 a2, .int .u64 (n : Int)] w fun e w' => e = .returned (.bool true) ∧ Below w.heap.size w w' := by
  have hd1 : decide ((10 : Int) < (len1 : Int)) = false := by simp; omega
  have hd2 : decide ((len0 : Int) < (len1 : Int)) = false := by simp; omega
  have HI := Lib.hid w0
  have HR := Lib.hid w1
  clear w0 w1
  go_enter Try.func4, Try.ntmps4
  go_wp2_with (first
    | (go_at_call 7; (with_reducible refine (first_any _).mono ?_); rintro e w1 ⟨rfl, hb1⟩)
    | (go_at_call 8; (with_reducible refine (new_b w1 w.heap.size hb1.size).mono ?_); rintro e w2 ⟨rfl, hP, hb2⟩; have HP := Lib.hid hP; have Hb2 := Lib.hid (hb1.trans hb2); clear hP))
  generalize w1.heap.size = g at *
  go_loopw [11] (fun i wr => ∃ (k : Nat) (now safe : List Int), k ≤ len1 ∧ i = .int .i64 (k : Int) ∧ Hid (FileB wr w.heap.size g now safe) ∧ Hid (Below w.heap.size w wr)) (fun i _ => len1 - (intOf i).toNat)
  case atStart => exact ⟨0, [], [], by omega, rfl, HP, Hb2⟩
  case round =>
    obtain ⟨k, now, safe, hk, rfl, hF, hB⟩ := hrel
    rcases Nat.lt_or_ge k len1 with hlt | hge
    · have hin : (k : Int) < (len1 : Int) := by omega
      have hk0 : k < len0 := by omega
      obtain ⟨b, off, rfl, hbl, hc, hbk, hLk, hLc, hCm⟩ := (HR.out.below hB.out) k hlt
      obtain ⟨b2, off2, rfl, hbl2, hc2, hwf⟩ := (HI.out.below hB.out) k (by omega)
      obtain ⟨J, hJ, hJ2⟩ := below_nat a2 (len1 : Int) (by omega)
      obtain ⟨p, hp, hp2⟩ := below_nat (f k) 5000 (by decide)
      have hlow : ∀ k' off', A k = some ⟨k', off', none⟩ → 0 < (P k).length → k' < w.heap.size := fun k' off' e hl => by
        obtain ⟨_, _, _, _, _, hb0, _⟩ := HR.out k hlt
        obtain ⟨b', off', e', hlt, _⟩ := hb0.2 0 hl
        rw [e] at e'; simp at e'; obtain ⟨rfl, rfl⟩ := e'; exact hlt
      have Hlow := Lib.hid hlow
      have Hbk := Lib.hid hbk
      have HLk := Lib.hid hLk
      clear hlow hbk hLk hwf
      by_cases h7 : 700 < L k
      · generalize L k = lk at *
        have h7i : (700 : Int) < (lk : Int) := by omega
        go_wp2
        go_ret
        exact ⟨rfl, hB.out⟩
      · have e0 : wcE (p : Int) (L k) = 0 := by unfold wcE; rw [if_neg (by omega), if_neg (by omega)]
        have HN := Lib.hid (number_nat (f k) 5000 p · (by decide) (by decide) hp.out)
        have HNJ := Lib.hid (number_nat a2 (len1 : Int) J · (by omega) (by omega) hJ.out)
        have HW := Lib.hid fun (W : World) (hW : FileB W w.heap.size g now safe) (hb : Below wr.heap.size wr W) => write_b W w.heap.size g now safe (p : Int) (A k) (L k) (C k) (P k) hW (Hbk.out.below hb (Nat.le_refl _)) HLk.out (by unfold maxLen at *; omega) Hlow.out (by omega) (by omega)
        rw [e0] at HW
        generalize wcL now (p : Int) (P k) = now2 at *
        clear hJ hp e0
        generalize L k = lk at *
        generalize A k = Ak at *
        generalize C k = Ck at *
        generalize f k = fk at *
        have h7i : (lk : Int) ≤ 700 := by omega
        have hbd : Below wr.heap.size wr wr.drew := below_drewN (Below.refl _ _) 1
        have HWd := Lib.hid (HW.out wr.drew (hF.out.below hbd) hbd)
        have hBd := Lib.hid (show Below w.heap.size w wr.drew from below_drewN hB.out 1)
        clear hbd
        go_wp2_with fail
        go_region_law (first
          | (go_simp; go_at_call 26; (with_reducible refine (HN.out _).mono ?_); rintro e w' ⟨rfl, rfl⟩)
          | (go_simp; go_at_call 9; (with_reducible refine HWd.out.mono ?_); rintro e w4 ⟨rfl, hP4, hb4⟩; have HP4 := Lib.hid hP4; have Hb4 := Lib.hid (hBd.out.trans hb4); clear hP4))
        all_goals
          by_cases hkJ : k = J
          · have hq : ((k : Int) == (J : Int)) = true := by rw [hkJ]; simp
            have HSy := Lib.hid (sync_b w4 w.heap.size g now2 safe HP4.out)
            go_wp2_with (first
              | (go_at_call 26; (with_reducible refine (HNJ.out _).mono ?_); rintro e w' ⟨rfl, rfl⟩)
              | (go_at_call 11; (with_reducible refine HSy.out.mono ?_); rintro e w5 ⟨rfl, hP5, hb5⟩; have HP5 := Lib.hid hP5; have Hb5 := Lib.hid (Hb4.out.trans hb5); clear hP5))
            go_round
            case rel => exact ⟨k + 1, now2, now2, by omega, by go_num, HP5, Hb5⟩
            case measure => simp [intOf]; omega
          · have hq : ((k : Int) == (J : Int)) = false := by simp; omega
            go_wp2_with (go_at_call 26; (with_reducible refine (HNJ.out _).mono ?_); rintro e w' ⟨rfl, rfl⟩)
            go_round
            case rel => exact ⟨k + 1, now2, safe, by omega, by go_num, HP4, Hb4⟩
            case measure => simp [intOf]; omega
    · obtain rfl : k = len1 := by omega
      clear hge HI HR HP Hb2
      have hlen := hF.out.len
      obtain ⟨hsz, F, hFP, hlow⟩ := hF.out
      have HF0 := Lib.hid hFP
      have hsL := hB.out.size
      -- what is told of the file, and the copies
      have HAll := Lib.hid (all_any wr F g now safe hFP)
      have HSafe := Lib.hid fun (W : World) (hb : Below wr.heap.size wr W) => safe_any W F g now safe (hFP.below hb)
      have HDirty := Lib.hid fun (W : World) (hb : Below wr.heap.size wr W) => dirty_any W F g now safe (hFP.below hb)
      have HCopy := Lib.hid fun (W : World) (hb : Below wr.heap.size wr W) => copy_any W F g now safe (hFP.below hb)
      obtain ⟨Ln, hLn⟩ : ∃ x, x = now.length := ⟨_, rfl⟩
      obtain ⟨Ls, hLs⟩ : ∃ x, x = safe.length := ⟨_, rfl⟩
      obtain ⟨D, hD⟩ : ∃ x, x = dirty now safe := ⟨_, rfl⟩
      obtain ⟨Ld, hLd⟩ : ∃ x, x = D.length := ⟨_, rfl⟩
      have HLn := Lib.hid hLn
      have HLs := Lib.hid hLs
      have HD := Lib.hid hD
      have HLd := Lib.hid hLd
      have hLd64 : Ld ≤ 64 := by
        rw [hLd, hD]
        exact dirty_few (by omega)
      rw [← hLn] at HAll
      rw [← hLs] at HSafe
      rw [← hD] at HDirty
      unfold Places at HDirty
      rw [← hLd] at HDirty
      clear hFP hlow hLn hLs hD hLd
      go_wp2_with (first
        | (go_at_call 21; (with_reducible refine HAll.out.mono ?_); rintro e wA ⟨An, cn, rfl, hoA, hbA⟩; have HOn := Lib.hid hoA; have HbA := Lib.hid hbA; clear hoA)
        | (go_at_call 22; (with_reducible refine (HSafe.out wA HbA.out).mono ?_); rintro e wS ⟨As, cs, rfl, hoS, hbS⟩; have HOs := Lib.hid hoS; have hsA := HbA.out.size; have HbS := Lib.hid (HbA.out.trans (hbS.mono hsA)); clear hoS)
        | (go_at_call 24; (with_reducible refine (HDirty.out wS HbS.out).mono ?_); rintro e wD ⟨Ad, cd, rfl, hoD, hbD⟩; have HOd := Lib.hid hoD; have hsS := HbS.out.size; have HbD := Lib.hid (HbS.out.trans (hbD.mono hsS)); clear hoD)
        | (go_at_call 15; (with_reducible refine (HCopy.out wD HbD.out).mono ?_); rintro e w1 ⟨ga, rfl, hPa, hb1⟩; have HPa := Lib.hid hPa; have hsD := HbD.out.size; have Hb1 := Lib.hid (HbD.out.trans (hb1.mono hsD)); clear hPa)
        | (go_at_call 15; (with_reducible refine (HCopy.out w1 Hb1.out).mono ?_); rintro e w2 ⟨gb, rfl, hPb, hb2⟩; have HPb := Lib.hid hPb; have hs1 := Hb1.out.size; have Hb2 := Lib.hid (Hb1.out.trans (hb2.mono hs1)); clear hPb)
        | (go_at_call 15; (with_reducible refine (HCopy.out w2 Hb2.out).mono ?_); rintro e w3 ⟨gc, rfl, hPc, hb3⟩; have HPc := Lib.hid hPc; have hs2 := Hb2.out.size; have Hb3 := Lib.hid (Hb2.out.trans (hb3.mono hs2)); clear hPc))
      have hz1 := hb1.size
      have hz2 := hb2.size
      have hz3 := hb3.size
      have HE1 := Lib.hid (crash_zero now safe (fun _ => false))
      have HE2 := Lib.hid (crash_ones (now := now) (safe := safe) (by have := HLd.out; rw [HD.out] at this; omega))
      obtain ⟨X, hX⟩ : ∃ X, crash now safe (kept 64 fun i => n.testBit i) = X := ⟨_, rfl⟩
      have HX := Lib.hid hX
      have HD3 := Lib.hid ((hb1.trans (hb2.mono hz1)).trans (hb3.mono (Nat.le_trans hz1 hz2)))
      have la := Ext.low (F := None') (w' := w1) (Nat.le_refl wD.heap.size) fun _ h => h.elim
      have lb := Ext.low (F := None') (w' := w2) hz1 fun _ h => h.elim
      have lc := Ext.low (F := None') (w' := w3) (Nat.le_trans hz1 hz2) fun _ h => h.elim
      have LA := Lib.hid la
      have LB := Lib.hid lb
      have LC := Lib.hid lc
      have CA := Lib.hid (crash_any w3 (Ext None' wD w1) ga now safe none 0 0 (fun _ => false) ((HPa.out.below hb2).below hb3) (no_bools _ _) (by decide))
      rw [HE1.out] at CA
      have PB3 := Lib.hid (HPb.out.below hb3)
      clear la lb lc hX hb1 hb2
      go_wp2_with (first
        | (go_at_call 13; (with_reducible refine CA.out.mono ?_); rintro e w4 ⟨rfl, hPa4, hK4⟩; have hz4 := hK4.size; have PA4 := Lib.hid hPa4; have HD4 := Lib.hid (below_then HD3.out hK4 (by omega) LA.out); have PB4 := Lib.hid (PB3.out.keptF hK4 (off_ranges fun k h1 h2 => by simp only [Ext, None', false_or] at h1 h2; omega)); have PC4 := Lib.hid (HPc.out.keptF hK4 (off_ranges fun k h1 h2 => by simp only [Ext, None', false_or] at h1 h2; omega)); clear hPa4)
        | (go_at_call 27; (with_reducible refine (keep_ones w4).mono ?_); rintro e w5 ⟨A5, c5, rfl, ho5, hb5⟩; have hz5 := hb5.size; have CB := Lib.hid (crash_any w5 (Ext None' w1 w2) gb now safe A5 64 c5 _ (PB4.out.below hb5) (keep_bools ho5) (by decide)); rw [HE2.out] at CB; have PA5 := Lib.hid (PA4.out.below hb5); have PC5 := Lib.hid (PC4.out.below hb5); have HD5 := Lib.hid (HD4.out.trans (hb5.mono HD4.out.size)); clear ho5)
        | (go_at_call 13; (with_reducible refine CB.out.mono ?_); rintro e w6 ⟨rfl, hPb6, hK6⟩; have hz6 := hK6.size; have PB6 := Lib.hid hPb6; have HD6 := Lib.hid (below_then HD5.out hK6 HD5.out.size LB.out); have PA6 := Lib.hid (PA5.out.keptF hK6 (off_ranges fun k h1 h2 => by simp only [Ext, None', false_or] at h1 h2; omega)); have PC6 := Lib.hid (PC5.out.keptF hK6 (off_ranges fun k h1 h2 => by simp only [Ext, None', false_or] at h1 h2; omega)); clear hPb6)
        | (go_at_call 27; (with_reducible refine (keep_any n hn w6).mono ?_); rintro e w7 ⟨A7, c7, rfl, ho7, hb7⟩; have hz7 := hb7.size; have CC := Lib.hid (crash_any w7 (Ext None' w2 w3) gc now safe A7 64 c7 _ (PC6.out.below hb7) (keep_bools ho7) (by decide)); rw [HX.out] at CC; have PA7 := Lib.hid (PA6.out.below hb7); have PB7 := Lib.hid (PB6.out.below hb7); have HD7 := Lib.hid (HD6.out.trans (hb7.mono HD6.out.size)); clear ho7)
        | (go_at_call 13; (with_reducible refine CC.out.mono ?_); rintro e w8 ⟨rfl, hPc8, hK8⟩; have hz8 := hK8.size; have PC8 := Lib.hid hPc8; have HD8 := Lib.hid (below_then HD7.out hK8 HD7.out.size LC.out); have PA8 := Lib.hid (PA7.out.keptF hK8 (off_ranges fun k h1 h2 => by simp only [Ext, None', false_or] at h1 h2; omega)); have PB8 := Lib.hid (PB7.out.keptF hK8 (off_ranges fun k h1 h2 => by simp only [Ext, None', false_or] at h1 h2; omega)); have QA := Lib.hid (all_any w8 _ ga safe safe PA8.out); rw [← HLs.out] at QA; clear hPc8)
        | (go_at_call 21; (with_reducible refine QA.out.mono ?_); rintro e w9 ⟨A9, c9, rfl, ho9, hb9⟩; have HO9 := Lib.hid ho9; have HD9 := Lib.hid (HD8.out.trans (hb9.mono HD8.out.size)); have QS := Lib.hid (same_self A9 As safe Ls c9 Ls cs w9 ho9.bytes ((HOs.out.bytes.below (hbD.trans (HD9.out.mono hbD.size)) (Nat.le_refl _))) HLs.out.symm HLs.out.symm); have QB := Lib.hid (all_any w9 _ gb now now (PB8.out.below hb9)); rw [← HLn.out] at QB; have PC9 := Lib.hid (PC8.out.below hb9); clear ho9)
        | (go_at_call 19; (with_reducible refine QS.out.mono ?_); rintro e w' ⟨rfl, rfl⟩)
        | (go_at_call 21; (with_reducible refine QB.out.mono ?_); rintro e w10 ⟨A10, c10, rfl, ho10, hb10⟩; have HD10 := Lib.hid (HD9.out.trans (hb10.mono HD9.out.size)); have QT := Lib.hid (same_self A10 An now Ln c10 Ln cn w10 ho10.bytes ((HOn.out.bytes.below ((hbS.trans (hbD.mono hbS.size)).trans (HD10.out.mono (Nat.le_trans hbS.size hbD.size))) (Nat.le_refl _))) HLn.out.symm HLn.out.symm); have PC10 := Lib.hid (PC9.out.below hb10); have QD := Lib.hid (dirty_any w10 _ gc X X PC10.out); rw [dirty_self] at QD; clear ho10)
        | (go_at_call 19; (with_reducible refine QT.out.mono ?_); rintro e w' ⟨rfl, rfl⟩)
        | (go_at_call 24; (with_reducible refine QD.out.mono ?_); rintro e w11 ⟨A11, c11, rfl, ho11, hb11⟩; have HD11 := Lib.hid (HD10.out.trans (hb11.mono HD10.out.size)); have PC11 := Lib.hid (PC10.out.below hb11); have QE := Lib.hid (all_any w11 _ gc X X PC11.out); clear ho11)
        | (go_at_call 21; (with_reducible refine QE.out.mono ?_); rintro e w12 ⟨A12, c12, rfl, ho12, hb12⟩; have HO12 := Lib.hid ho12; have HD12 := Lib.hid (HD11.out.trans (hb12.mono HD11.out.size)); have PC12 := Lib.hid (PC11.out.below hb12); have QF := Lib.hid (safe_any w12 _ gc X X PC12.out); clear ho12)
        | (go_at_call 22; (with_reducible refine QF.out.mono ?_); rintro e w13 ⟨A13, c13, rfl, ho13, hb13⟩; have HD13 := Lib.hid (HD12.out.trans (hb13.mono HD12.out.size)); have PC13 := Lib.hid (PC12.out.below hb13); have QU := Lib.hid (same_self A12 A13 X _ c12 _ c13 w13 (HO12.out.bytes.below hb13 (Nat.le_refl _)) ho13.bytes rfl rfl); have QG := Lib.hid (all_any w13 _ gc X X PC13.out); clear ho13)
        | (go_at_call 19; (with_reducible refine QU.out.mono ?_); rintro e w' ⟨rfl, rfl⟩)
        | (go_at_call 21; (with_reducible refine QG.out.mono ?_); rintro e w14 ⟨A14, c14, rfl, ho14, hb14⟩; have HO14 := Lib.hid ho14; have HD14 := Lib.hid (HD13.out.trans (hb14.mono HD13.out.size)); clear ho14))
      have HLx := Lib.hid (show X.length ≤ Ln by
        have h := crash_len_le now safe (kept 64 fun i => n.testBit i)
        rw [HX.out] at h
        have := HLn.out
        omega)
      have hLs : Ls ≤ Ln := by have := HLn.out; have := HLs.out; omega
      have hLnb : Ln ≤ 32768 := by have := HLn.out; omega
      have HBn := Lib.hid (HOn.out.bytes.below ((hbS.trans (hbD.mono hbS.size)).trans (HD14.out.mono (Nat.le_trans hbS.size hbD.size))) (Nat.le_refl _))
      have HBx := Lib.hid HO14.out.bytes
      have HDm := Lib.hid (show ∀ x ∈ D, x ≤ 64 from fun x hx => by
        rw [HD.out] at hx
        have h1 := (dirtyTo_lt hx).1
        have h2 := secs_lt.1 h1
        omega)
      have HIn := Lib.hid (OwnI.ints (w := w14) ⟨HOd.out.1, HOd.out.2.kept HD14.out (Nat.le_refl _)⟩ fun x hx => by have := HDm.out x hx; omega)
      have HBel := Lib.hid ((hB.out.trans (HbD.out.mono hsL)).trans (HD14.out.mono (Nat.le_trans hsL hsD)))
      have HcN := Lib.hid (own_cap HOn.out)
      have HcX := Lib.hid (own_cap HO14.out)
      obtain ⟨Lx, hLx⟩ : ∃ x, x = X.length := ⟨_, rfl⟩
      have HLX := Lib.hid hLx
      rw [← hLx] at HLx HcX ⊢
      have hLxn : Lx ≤ Ln := HLx.out
      clear hLx
      go_loopw [19] (fun i W => ∃ (j r : Nat), j ≤ Ld ∧ i = .int .i64 (j : Int) ∧ W = w14.drewN r) (fun i _ => Ld - (intOf i).toNat)
      case atStart => exact ⟨0, 0, by omega, rfl, rfl⟩
      case round =>
        obtain ⟨j, r, hj, rfl, rfl⟩ := hrel
        rcases Nat.lt_or_ge j Ld with hjl | hjg
        · have hji : (j : Int) < (Ld : Int) := by omega
          have hj64 : (j : Int) < 64 := by omega
          obtain ⟨bd, offd, rfl, hbdl, hcd, _⟩ := HIn.out j hjl
          have hcd2 : (w14.drewN r).cell? ⟨bd, offd + j, none⟩ = some (.int .i64 ((D.getD j 0 : Nat) : Int)) := hcd
          have HV := Lib.hid (bit_zero n j hn)
          have hfrom := dirty_at (now := now) (safe := safe) (i := j) (by rw [← HD.out, ← HLd.out]; exact hjl)
          rw [← HD.out] at hfrom
          have HEi := Lib.hid fun (m : Nat) (hp : n.testBit j = true) (hm : 512 * D.getD j 0 + m ≤ Lx) (hm2 : m ≤ 512) => either (now := now) (safe := safe) (kp := kept 64 fun i => n.testBit i) (i := j) (k := D.getD j 0) (n := m) hlen.1 (by rw [← HD.out, ← HLd.out]; exact hjl) (by rw [← HD.out]) (by show (decide (j < 64) && n.testBit j) = true; rw [decide_eq_true (by omega), hp]; rfl) (by rw [HX.out, ← HLX.out]; exact hm) hm2
          clear hcd
          generalize D.getD j 0 = kk at *
          have hkk : kk ≤ 64 := by have := HLn.out; omega
          obtain ⟨fr, hfr⟩ : ∃ fr, fr = 512 * kk := ⟨_, rfl⟩
          have e1 : (kk : Int) * 512 = (fr : Int) := by omega
          have hfrb : fr ≤ 32768 := by omega
          have hLnb2 : Lx ≤ 32768 := by omega
          rw [← hfr] at HEi
          clear hfr hfrom
          cases hbit : n.testBit j with
          | false =>
            rw [hbit] at HV
            have hv := HV.out
            clear hbit
            go_wp2
            all_goals
              go_round
              case rel => exact ⟨j + 1, r, by omega, by go_num, rfl⟩
              case measure => simp [intOf]; omega
          | true =>
            rw [hbit] at HV
            have hv := HV.out
            by_cases hfx : Lx ≤ fr
            · have h1 : (Lx : Int) ≤ (fr : Int) := by omega
              have h2 : (Lx : Int) < (fr : Int) + 512 := by omega
              clear hbit
              go_wp2
              all_goals
                go_round
                case rel => exact ⟨j + 1, r, by omega, by go_num, rfl⟩
                case measure => simp [intOf]; omega
            · rcases Nat.lt_or_ge Lx (fr + 512) with hq | hq
              · obtain ⟨m, hm⟩ : ∃ m, m = Lx - fr := ⟨_, rfl⟩
                have h2 : (Lx : Int) < (fr : Int) + 512 := by omega
                obtain ⟨k1, k2, k3⟩ := HEi.out m hbit (by omega) (by omega)
                have htm : Lx = fr + m := by omega
                have hmp : 0 < m := by omega
                have htb : Lx ≤ 40000 := by omega
                obtain ⟨gn, rfl⟩ : ∃ gn, An = some ⟨gn, 0, none⟩ := by
                  rcases HOn.out.2.2.2.2 with ⟨he, h0⟩ | ⟨g, _, _, he, _⟩
                  · omega
                  · injection he with e1 e2 e3
                    exact ⟨g, e1⟩
                obtain ⟨gx, rfl⟩ : ∃ gx, A14 = some ⟨gx, 0, none⟩ := by
                  rcases HO14.out.2.2.2.2 with ⟨he, h0⟩ | ⟨g, _, _, he, _⟩
                  · have := HLX.out
                    omega
                  · injection he with e1 e2 e3
                    exact ⟨g, e1⟩
                have hkn : fr + m ≤ Ln := by have := HLn.out; omega
                have hkx : fr + m ≤ Lx := by omega
                have bx := HBx.out.part fr m (some ⟨gx, fr, none⟩) (fun b off e _ _ => by simp at e; obtain ⟨rfl, rfl⟩ := e; rw [Nat.zero_add])
                have bn := HBn.out.part fr m (some ⟨gn, fr, none⟩) (fun b off e _ _ => by simp at e; obtain ⟨rfl, rfl⟩ := e; rw [Nat.zero_add])
                rw [HX.out] at k3
                rw [← k3] at bn
                have lx : ((X.drop fr).take m).length = m := by have := HLX.out; simp; omega
                obtain ⟨S, hS⟩ : ∃ S, S = strOfNums ((X.drop fr).take m) := ⟨_, rfl⟩
                have hsx : ∀ q c, (convert 27 9 (.slice (some ⟨gx, fr, none⟩) m c)).run Try.prog ((w14.drewN r).drewN q) = .ok (.string S) ((w14.drewN r).drewN q) := fun q c => by
                  rw [hS]
                  exact ((bx.drewN r).drewN q).string c m lx
                have hsn : ∀ q c, (convert 27 9 (.slice (some ⟨gn, fr, none⟩) m c)).run Try.prog ((w14.drewN r).drewN q) = .ok (.string S) ((w14.drewN r).drewN q) := fun q c => by
                  rw [hS]
                  exact ((bn.drewN r).drewN q).string c m lx
                have hsx2 : ∀ q c, (convert 27 9 (.slice (some ⟨gx, fr, none⟩) m c)).run Try.prog (w14.drewN q) = .ok (.string S) (w14.drewN q) := fun q c => by
                  rw [hS]
                  exact (bx.drewN q).string c m lx
                have hsn2 : ∀ q c, (convert 27 9 (.slice (some ⟨gn, fr, none⟩) m c)).run Try.prog (w14.drewN q) = .ok (.string S) (w14.drewN q) := fun q c => by
                  rw [hS]
                  exact (bn.drewN q).string c m lx
                have h3 : (Lx : Int) ≤ (Ln : Int) := by omega
                have h3e : (if Ln < Lx then (Ln : Int) else (Lx : Int)) = (Lx : Int) := if_neg (by omega)
                have h4 : ¬ ((Lx : Int) ≤ (fr : Int)) := by omega
                have h5 : decide ((Ln : Int) ≤ (fr : Int)) = false := by simp; omega
                have h5n : decide (Ln ≤ fr) = false := by simp; omega
                have h6 : decide ((Ln : Int) < (Lx : Int)) = false := by simp; omega
                have h6n : decide (Ln < Lx) = false := by simp; omega
                have h7 : Lx - fr = m := by omega
                have hcn := HcN.out
                have hcx := HcX.out
                have h8 : Lx ≤ cn := by omega
                have h9 : Lx ≤ c14 := by omega
                have h10x : fr ≤ Lx := by omega
                have h11 : ¬ cn = fr := by omega
                have h12 : ¬ c14 = fr := by omega
                have h13 : decide ((64 : Int) ≤ (j : Int)) = false := by simp; omega
                have h14 : decide ((Lx : Int) ≤ (fr : Int)) = false := by simp; omega
                clear bx bn k1 k2 k3 hbit HEi lx hS htm hm
                go_wp2
                go_quiet (fail)
                go_wp2
                go_round
                case rel => exact ⟨j + 1, r + nq, by omega, by go_num, rfl⟩
                case measure => simp [intOf]; omega
              · obtain ⟨tt, htt⟩ : ∃ tt, tt = fr + 512 := ⟨_, rfl⟩
                obtain ⟨m, hm⟩ : ∃ m, m = 512 := ⟨_, rfl⟩
                have e2 : (fr : Int) + 512 = (tt : Int) := by omega
                have h2 : (tt : Int) ≤ (Lx : Int) := by omega
                obtain ⟨k1, k2, k3⟩ := HEi.out m hbit (by omega) (by omega)
                have htm : tt = fr + m := by omega
                have hmp : 0 < m := by omega
                have htb : tt ≤ 40000 := by omega
                obtain ⟨gn, rfl⟩ : ∃ gn, An = some ⟨gn, 0, none⟩ := by
                  rcases HOn.out.2.2.2.2 with ⟨he, h0⟩ | ⟨g, _, _, he, _⟩
                  · omega
                  · injection he with e1 e2 e3
                    exact ⟨g, e1⟩
                obtain ⟨gx, rfl⟩ : ∃ gx, A14 = some ⟨gx, 0, none⟩ := by
                  rcases HO14.out.2.2.2.2 with ⟨he, h0⟩ | ⟨g, _, _, he, _⟩
                  · have := HLX.out
                    omega
                  · injection he with e1 e2 e3
                    exact ⟨g, e1⟩
                have hkn : fr + m ≤ Ln := by have := HLn.out; omega
                have hkx : fr + m ≤ Lx := by omega
                have bx := HBx.out.part fr m (some ⟨gx, fr, none⟩) (fun b off e _ _ => by simp at e; obtain ⟨rfl, rfl⟩ := e; rw [Nat.zero_add])
                have bn := HBn.out.part fr m (some ⟨gn, fr, none⟩) (fun b off e _ _ => by simp at e; obtain ⟨rfl, rfl⟩ := e; rw [Nat.zero_add])
                rw [HX.out] at k3
                rw [← k3] at bn
                have lx : ((X.drop fr).take m).length = m := by have := HLX.out; simp; omega
                obtain ⟨S, hS⟩ : ∃ S, S = strOfNums ((X.drop fr).take m) := ⟨_, rfl⟩
                have hsx : ∀ q c, (convert 27 9 (.slice (some ⟨gx, fr, none⟩) m c)).run Try.prog ((w14.drewN r).drewN q) = .ok (.string S) ((w14.drewN r).drewN q) := fun q c => by
                  rw [hS]
                  exact ((bx.drewN r).drewN q).string c m lx
                have hsn : ∀ q c, (convert 27 9 (.slice (some ⟨gn, fr, none⟩) m c)).run Try.prog ((w14.drewN r).drewN q) = .ok (.string S) ((w14.drewN r).drewN q) := fun q c => by
                  rw [hS]
                  exact ((bn.drewN r).drewN q).string c m lx
                have hsx2 : ∀ q c, (convert 27 9 (.slice (some ⟨gx, fr, none⟩) m c)).run Try.prog (w14.drewN q) = .ok (.string S) (w14.drewN q) := fun q c => by
                  rw [hS]
                  exact (bx.drewN q).string c m lx
                have hsn2 : ∀ q c, (convert 27 9 (.slice (some ⟨gn, fr, none⟩) m c)).run Try.prog (w14.drewN q) = .ok (.string S) (w14.drewN q) := fun q c => by
                  rw [hS]
                  exact (bn.drewN q).string c m lx
                have h3 : (tt : Int) ≤ (Ln : Int) := by omega
                have h3e : (if Ln < tt then (Ln : Int) else (tt : Int)) = (tt : Int) := if_neg (by omega)
                have h4 : ¬ ((tt : Int) ≤ (fr : Int)) := by omega
                have h5 : decide ((Ln : Int) ≤ (fr : Int)) = false := by simp; omega
                have h5n : decide (Ln ≤ fr) = false := by simp; omega
                have h6 : decide ((Ln : Int) < (tt : Int)) = false := by simp; omega
                have h6n : decide (Ln < tt) = false := by simp; omega
                have h7 : tt - fr = m := by omega
                have hcn := HcN.out
                have hcx := HcX.out
                have h8 : tt ≤ cn := by omega
                have h9 : tt ≤ c14 := by omega
                have h10x : fr ≤ tt := by omega
                have h11 : ¬ cn = fr := by omega
                have h12 : ¬ c14 = fr := by omega
                have h13 : decide ((64 : Int) ≤ (j : Int)) = false := by simp; omega
                have h14 : decide ((tt : Int) ≤ (fr : Int)) = false := by simp; omega
                clear bx bn k1 k2 k3 hbit HEi lx hS htm hm htt
                go_wp2
                go_quiet (fail)
                go_wp2
                go_round
                case rel => exact ⟨j + 1, r + nq, by omega, by go_num, rfl⟩
                case measure => simp [intOf]; omega
        · obtain rfl : j = Ld := by omega
          have hmx : max (Ln : Int) (Ls : Int) = (Ln : Int) := by omega
          have hLxi : (Lx : Int) ≤ (Ln : Int) := by omega
          go_wp2
          all_goals
            go_ret
            exact ⟨rfl, below_drewN HBel.out r⟩

theorem walk (a0 : Option Addr) (len0 cap0 : Nat) (z0 : List Int) (a1 : Option Addr) (len1 cap1 : Nat) (A : Nat → Option Addr) (L C : Nat → Nat) (Z : Nat → List Int) (a2 : Int) (a3 : Int) (w : World) (w0 : IsRow .i64 w a0 len0 cap0 z0) (w1 : IsRows .u8 w a1 len1 cap1 A L C Z) (w2 : (Lit.int .i64 a2).wf = true) (w3 : (Lit.int .u64 a3).wf = true) :
    Calls Try.prog 4 #[.slice a0 len0 cap0, .slice a1 len1 cap1, .int .i64 a2, .int .u64 a3] w fun e w' => e = .returned (.bool true) ∧ Below w.heap.size w w' := by
  obtain ⟨v0, v1⟩ := bounds_u64 w3
  obtain ⟨n, rfl⟩ := Int.eq_ofNat_of_zero_le v0
  obtain ⟨hi, hc0, hm0⟩ := ints_in w0
  obtain ⟨hr, hc1, hm1⟩ := rows_in w1
  unfold maxLen at hm0 hm1
  by_cases h : 10 < len1 ∨ len0 < len1
  · exact walk_long a0 len0 cap0 a1 len1 cap1 a2 _ w h (by omega) (by omega)
  · exact walk_in a0 len0 cap0 _ a1 len1 cap1 A L C _ a2 n w hi hr (by omega) (by omega) (by omega) (by omega)
end Go.Proofs.Ytknkdppaalmknaa.SectEitherW
