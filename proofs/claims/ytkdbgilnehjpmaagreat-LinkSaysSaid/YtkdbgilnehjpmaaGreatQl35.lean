/-
  Texts beneath the proof, one behind the other.
-/
import Derived.Test.YtkdbgilnehjpmaaGreatQl34
import Derived.Test.YtkdbgilnehjpmaaGreatQl31
import Derived.Test.YtkdbgilnehjpmaaGreatQl26
/-
  The walk of LinkSays.
-/
namespace Go.Proofs.YtkdbgilnehjpmaaGreat.LinkSaysW
open Go.ChangeShapes Go.WideShapes Go.ChangeAt Go.RowKit
open Bytes8 Blk8 Own8 OwnM OwnE LeA LeNum LeP RefA Rows2 Ob Oc Od Ga Gb Gc Gd Gf Gi Gj Numb Ma Mh Na Ns Nt Nu Nv Ra Rc Rp Va Vd Vg Wa Wc Ls
open Yi (samePlaces_yes)
open Go1 (hcode)
open Lk (first_link roomP)
set_option linter.unusedVariables false
set_option linter.unusedSimpArgs false
set_option maxRecDepth 100000
attribute [local irreducible] HD.cells wpList Code.wp roomP
set_option maxHeartbeats 16000000 in
theorem walk_main (a : Option Addr) (len cap : Nat) (f : Nat → Int) (P : Option Addr) (k kc : Nat) (g : Nat → Int) (by_ : Int) (pl : Nat) (kd : Int) (w : World) (hI : InInts .i64 w a len f) (hl : len ≤ 120) (hP : InInts .i64 w P k g) (hk : k ≤ 8) (hy : 0 ≤ by_ ∧ by_ < 256) (hkd : kd ≤ 9223372036854775807) :
    Calls Tryz.prog 9 #[.slice a len cap, .slice P k kc, .int .u8 by_, .int .u64 (pl : Int), .int .i64 kd] w fun e w' => e = .returned (.bool true) ∧ Below w.heap.size w w' := by
  have d1 : decide ((120 : Int) < (len : Int)) = false := by simp; omega
  have d2 : decide ((8 : Int) < (k : Int)) = false := by simp; omega
  have HI := Lib.hid hI
  have HP := Lib.hid hP
  clear hI hP
  go_enter Tryz.func9, Tryz.ntmps9
  go_upto_region 6 with (go_at_call 46; ((with_reducible refine (first_link _).mono ?_); rintro e w1 ⟨rfl, hb1⟩; have B1 := Lib.hid hb1; clear hb1))
  clear d1 d2
  have HIm := Lib.hid (image_made a len cap f 12 w1 (HI.out.below B1.out) (by omega) (by decide))
  unfold Imaged at HIm
  have HP1 := Lib.hid (HP.out.below B1.out)
  go_upto_region 7 with (first
    | (go_at_call 14; ((refine HIm.out.mono ?_); rintro e w2 ⟨A0, c0, m, rfl, hg2, ho2, hb2⟩; have hlen := hg2.img.lens; have HO2 := Lib.hid ho2; have B2 := Lib.hid (B1.out.trans (hb2.mono B1.out.size)); have HSp := Lib.hid (spoil_any A0 m.b.length c0 (imgB m) P k kc g by_ w2 ho2.bytes (imgB_len hg2.img) (by omega) (HP1.out.below hb2) (by omega) hy); clear hg2 ho2 hb2))
    | (go_at_call 13; ((refine HSp.out.mono ?_); rintro e w3 ⟨A, c, l, rfl, hl3, ho3, hb3⟩; have HO := Lib.hid ho3; have B3 := Lib.hid (B2.out.trans (hb3.mono B2.out.size)); clear ho3 hb3))
    | fail)
  generalize m.b.length = n at *
  have hb := HO.out.bytes
  have hcap := own_cap HO.out
  have HB := Lib.hid hb
  have hL : l.length = n := hl3
  clear HIm HP HP1 HI HSp HO2 B1 B2 HO hl3
  by_cases hz : hcode l n = 0
  · have hok := hdOf_ok hb.1 21
    obtain ⟨E, hE, hEB, hEn⟩ := fine_end hz hok
    have HOp := Lib.hid fun (W : World) (hW : Bytes W A l) => open_fine l A n c W hW hL (by omega) hcap.1 hz E hE hEB hEn hok
    have HQ := Lib.hid fun (W : World) (hW : Bytes W A l) => ropen_fine l A n c W hW hL (by omega) hcap.1 hz E hE hEB hEn hok
    unfold Opened at HOp
    unfold OpenedR at HQ
    have hokH := hok
    have HAl := Lib.hid (hb.1.take E)
    have hlE : (l.take E).length ≤ 800000 := by rw [List.length_take]; omega
    generalize hdOf l = H at *
    generalize Ob.u8 l 248 = dp at *
    clear hb hz hE hEB hok
    go_upto_region 8 with (first
      | (go_at_call 15; ((refine (HOp.out _ HB.out).mono ?_); rintro e w4 ⟨gv, Av, cv, rfl, _, hv, hcv, hb4⟩; have HV4 := Lib.hid hv; have B4 := Lib.hid (B3.out.trans (hb4.mono B3.out.size)); have HB4 := Lib.hid (HB.out.below hb4 (Nat.le_refl _)); clear hv hb4))
      | fail)
    go_upto_region 9 with (first
      | (go_at_call 16; ((refine (HQ.out _ HB4.out).mono ?_); rintro e w5 ⟨gw, Aw, cw, rfl, _, hw, hb5⟩; have HW5 := Lib.hid hw; have HV5 := Lib.hid (HV4.out.below hb5); have B5 := Lib.hid (B4.out.trans (hb5.mono B4.out.size)); clear hw hb5))
      | fail)
    generalize l.take E = lE at *
    have hEb : E ≤ 800000 := by omega
    have HEw := Lib.hid fun (W : World) (hW : Below w5.heap.size w5 W) => rvend_any W (HW5.out.below hW)
    have HOv := Lib.hid fun (x : Nat) (W : World) (hW : Below w5.heap.size w5 W) => Wm.of_any x W (HV5.out.below hW) hcv hEb hlE HAl.out
    have HOw := Lib.hid fun (x : Nat) (W : World) (hW : Below w5.heap.size w5 W) => rof_any x W (HW5.out.below hW)
    have HEn := Lib.hid (Wl.entries_any w5 HV5.out hcv hEb hlE HAl.out hokH)
    have HEr := Lib.hid fun (W : World) (hW : Below w5.heap.size w5 W) => Wb.rentries_any W (HW5.out.below hW)
    have HFo := Lib.hid fun (x : Nat) => of_fit (h := H) HAl.out E x
    have HFe := Lib.hid (chase_fit (h := H) HAl.out (E := E) (n := H.N 8) (na := 14) (ni := 2) (E + 1) [] (H.N 11).toNat 0 (fit_nil E))
    have HSm := Lib.hid fun (out : List Int) (hF : Fit E out) (A1 A2 : Option Addr) (m1 c1 m2 c2 b1 b2 : Nat) (W : World) (o1 : OwnE 23 1 W b1 A1 m1 c1 (out.map (Value.int .u64))) (l1 : out.length = m1) (o2 : OwnE 23 1 W b2 A2 m2 c2 (out.map (Value.int .u64))) (l2 : out.length = m2) => show Calls Tryz.prog 33 #[.slice A1 m1 c1, .slice A2 m2 c2] W fun e w' => e = .returned (.bool true) ∧ Below W.heap.size W w' from by
      have h5 : m2 = m1 := by omega
      subst h5
      exact samePlaces_yes A1 A2 m2 c1 c2 _ W (tell_ints o1 l1 hF.2) (tell_ints o2 l2 hF.2) (by have h6 := hF.1; unfold Up at h6; omega)
    unfold TellL at HOv HOw HEn HEr
    generalize chase H lE E (H.N 8) 14 2 (E + 1) [] (H.N 11).toNat 0 = RE at *
    generalize hRO : ofR H lE E = RO at *
    have S5 := Lib.hid (Below.refl w5.heap.size w5)
    have hne : (RE.2 != RE.2) = false := by simp
    have hne2 : (RE.2 == RE.2) = true := by simp
    clear HOp HQ HB4 HV4 B3 B4 HB hRO
    go_upto_region 17 with (first
      | (go_at_call 47; (refine HEn.out.mono ?_); rintro e w6 ⟨hb6, A6, m6, c6, rfl, ho6, hl6⟩; have S6 := Lib.hid hb6; have O6 := Lib.hid ho6; have L6 := Lib.hid hl6; clear hb6 ho6 hl6)
      | (go_at_call 48; (refine (HEr.out _ S6.out).mono ?_); rintro e w7 ⟨hb7, A7, m7, c7, rfl, ho7, hl7⟩; have S7 := Lib.hid (S6.out.trans (hb7.mono S6.out.size)); have HS7 := Lib.hid (HSm.out _ HFe.out A6 A7 m6 c6 m7 c7 _ _ w7 (O6.out.kept hb7 (Nat.le_refl _)) L6.out ho7 hl7); clear hb7 ho7 hl7)
      | (go_at_call 33; (refine HS7.out.mono ?_); rintro e w8 ⟨rfl, hb8⟩; have S8 := Lib.hid (S7.out.trans (hb8.mono S7.out.size)); clear hb8)
      | fail)
    clear hne hne2
    have hwu : IntKind.u64.wrap ((E : Int) + 16) = ((E + 16 : Nat) : Int) := by rw [IntKind.wrap_u64]; omega
    have HRv := Lib.hid fun (W : World) => Lk.room_any kd hkd W
    have HRw := Lib.hid fun (W : World) => rroom_any kd W
    generalize roomP kd = rk at *
    have hneq : (rk == rk) = true := by simp
    go_upto_region 18 with fail
    go_loopw [17, 18, 19, 20, 21] (fun a b c d i wr => ∃ x : Nat, x ≤ E + 24 ∧ i = .int .u64 (x : Int) ∧ Hid (Below w5.heap.size w5 wr)) (fun _ _ _ _ i _ => E + 24 - Vg.natOf i)
    case atStart => exact ⟨0, Nat.zero_le _, rfl, S8⟩
    case round =>
      obtain ⟨x, hx, rfl, hbr⟩ := hrel
      by_cases hlt : x < E + 16
      · have dd1 : decide ((x : Int) < ((E + 16 : Nat) : Int)) = true := by simp; omega
        have hw8 : IntKind.u64.wrap ((x : Int) + 8) = ((x + 8 : Nat) : Int) := by rw [IntKind.wrap_u64]; omega
        have hne : ((RO x).2 != (RO x).2) = false := by simp
        have hne2 : ((RO x).2 == (RO x).2) = true := by simp
        go_wp2_with (first
          | (go_at_call 20; (refine (HEw.out _ hbr.out).mono ?_); rintro e y1 ⟨rfl, rfl⟩)
          | (go_at_call 49; (refine (HOv.out x _ hbr.out).mono ?_); rintro e wa ⟨hba, A8, m8, c8, rfl, ho8, hl8⟩; have SA := Lib.hid ((hbr.out).trans (hba.mono (hbr.out).size)); have O8 := Lib.hid ho8; have L8 := Lib.hid hl8; clear hba ho8 hl8)
          | (go_at_call 50; (refine (HOw.out x _ SA.out).mono ?_); rintro e wb ⟨hbb, A9, m9, c9, rfl, ho9, hl9⟩; have SB := Lib.hid (SA.out.trans (hbb.mono SA.out.size)); have HS9 := Lib.hid (HSm.out _ (HFo.out x) A8 A9 m8 c8 m9 c9 _ _ wb (O8.out.kept hbb (Nat.le_refl _)) L8.out ho9 hl9); clear hbb ho9 hl9)
          | (go_at_call 33; (refine HS9.out.mono ?_); rintro e wc ⟨rfl, hbc⟩; have SC := Lib.hid (SB.out.trans (hbc.mono SB.out.size)); clear hbc)
          | (go_at_call 51; (refine (HRv.out _).mono ?_); rintro e wd ⟨rfl, rfl⟩)
          | (go_at_call 52; (refine (HRw.out _).mono ?_); rintro e we ⟨rfl, rfl⟩)
          | fail)
        go_roundw
        case rel => exact ⟨x + 8, by omega, rfl, SC⟩
        case measure => simp [Vg.natOf]; omega
      · have dd1 : decide ((x : Int) < ((E + 16 : Nat) : Int)) = false := by simp; omega
        have hne : ((RO pl).2 != (RO pl).2) = false := by simp
        have hne2 : ((RO pl).2 == (RO pl).2) = true := by simp
        go_wp2_with (first
          | (go_at_call 20; (refine (HEw.out _ hbr.out).mono ?_); rintro e y1 ⟨rfl, rfl⟩)
          | (go_at_call 49; (refine (HOv.out pl _ hbr.out).mono ?_); rintro e wa ⟨hba, A8, m8, c8, rfl, ho8, hl8⟩; have SA := Lib.hid ((hbr.out).trans (hba.mono (hbr.out).size)); have O8 := Lib.hid ho8; have L8 := Lib.hid hl8; clear hba ho8 hl8)
          | (go_at_call 50; (refine (HOw.out pl _ SA.out).mono ?_); rintro e wb ⟨hbb, A9, m9, c9, rfl, ho9, hl9⟩; have SB := Lib.hid (SA.out.trans (hbb.mono SA.out.size)); have HS9 := Lib.hid (HSm.out _ (HFo.out pl) A8 A9 m8 c8 m9 c9 _ _ wb (O8.out.kept hbb (Nat.le_refl _)) L8.out ho9 hl9); clear hbb ho9 hl9)
          | (go_at_call 33; (refine HS9.out.mono ?_); rintro e wc ⟨rfl, hbc⟩; have SC := Lib.hid (SB.out.trans (hbc.mono SB.out.size)); clear hbc)
          | (go_at_call 51; (refine (HRv.out _).mono ?_); rintro e wd ⟨rfl, rfl⟩)
          | (go_at_call 52; (refine (HRw.out _).mono ?_); rintro e we ⟨rfl, rfl⟩)
          | fail)
        go_ret
        exact ⟨rfl, B5.out.trans (SC.out.mono B5.out.size)⟩
  · have HOp := Lib.hid fun (W : World) (hW : Bytes W A l) => open_bad l A n c W hW hL (by omega) hcap.1 hz
    have HQ := Lib.hid fun (W : World) (hW : Bytes W A l) => ropen_bad l A n c W hW hL (by omega) hcap.1 hz
    have d2 : (hcode l n != 0) = true := by simpa using hz
    have d3 : (hcode l n != hcode l n) = false := by simp
    generalize hcode l n = cd at *
    clear hb
    go_wp2_with (first
      | (go_at_call 15; ((refine (HOp.out _ HB.out).mono ?_); rintro e w4 ⟨rfl, hb4⟩; have B4 := Lib.hid (B3.out.trans (hb4.mono B3.out.size)); have HB4 := Lib.hid (HB.out.below hb4 (Nat.le_refl _)); clear hb4))
      | (go_at_call 16; ((refine (HQ.out _ HB4.out).mono ?_); rintro e w5 ⟨rfl, hb5⟩; have B5 := Lib.hid (B4.out.trans (hb5.mono B4.out.size)); clear hb5))
      | fail)
    go_ret
    exact ⟨rfl, B5.out⟩
theorem walk (a : Option Addr) (len cap : Nat) (z : List Int) (P : Option Addr) (k kc : Nat) (zp : List Int) (y : Int) (p : Int) (kd : Int) (w : World) (h : IsRow .i64 w a len cap z) (hp : IsRow .i64 w P k kc zp) (hy : (Lit.int .u8 y).wf = true) (hpl : (Lit.int .u64 p).wf = true) (hkd : (Lit.int .i64 kd).wf = true) :
    Calls Tryz.prog 9 #[.slice a len cap, .slice P k kc, .int .u8 y, .int .u64 p, .int .i64 kd] w fun e w' => e = .returned (.bool true) ∧ Below w.heap.size w w' := by
  obtain ⟨hI, h2, h3⟩ := ints_in h
  obtain ⟨hP, h4, h5⟩ := ints_in hp
  have hy0 : 0 ≤ y ∧ y < 256 := by
    simp [Lit.wf, IntKind.min, IntKind.max, IntKind.signed, IntKind.bits] at hy
    omega
  have hp0 : 0 ≤ p := by
    simp [Lit.wf, IntKind.min, IntKind.max, IntKind.signed, IntKind.bits] at hpl
    omega
  have hkd0 : kd ≤ 9223372036854775807 := by
    simp [Lit.wf, IntKind.min, IntKind.max, IntKind.signed, IntKind.bits] at hkd
    omega
  obtain ⟨q, rfl⟩ : ∃ q : Nat, p = (q : Int) := ⟨p.toNat, by omega⟩
  by_cases h1 : len ≤ 120 ∧ k ≤ 8
  · exact walk_main a len cap _ P k kc _ y q kd w hI h1.1 hP h1.2 hy0 hkd0
  · by_cases h6 : len ≤ 120
    · have d1 : decide ((120 : Int) < (len : Int)) = false := by simp; omega
      have d2 : decide ((8 : Int) < (k : Int)) = true := by simp; omega
      clear h hp hI hP
      go_enter Tryz.func9, Tryz.ntmps9
      go_wp2_with (go_at_call 46; ((with_reducible refine (first_link _).mono ?_); rintro e w1 ⟨rfl, hb1⟩; have B1 := Lib.hid hb1; clear hb1))
      go_ret
      exact ⟨rfl, B1.out⟩
    · have d1 : decide ((120 : Int) < (len : Int)) = true := by simp; omega
      clear h hp hI hP
      go_enter Tryz.func9, Tryz.ntmps9
      go_wp2_with (go_at_call 46; ((with_reducible refine (first_link _).mono ?_); rintro e w1 ⟨rfl, hb1⟩; have B1 := Lib.hid hb1; clear hb1))
      go_ret
      exact ⟨rfl, B1.out⟩
end Go.Proofs.YtkdbgilnehjpmaaGreat.LinkSaysW
