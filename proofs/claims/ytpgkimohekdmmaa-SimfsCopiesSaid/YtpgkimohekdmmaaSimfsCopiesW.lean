/-
  The walk of SimfsCopies: at any things that are done and any crash the law returns true, and nothing that was there is written.
-/
import Derived.Test.YtpgkimohekdmmaaDy
import Derived.Test.YtpgkimohekdmmaaDq
import Derived.Test.YtpgkimohekdmmaaDt
import Derived.Test.YtpgkimohekdmmaaDo6
import Derived.Test.YtpgkimohekdmmaaSB
import Derived.Test.YtpgkimohekdmmaaNumb
import Derived.Deep.RegionHeld3
import Derived.Deep.CutBlock
import Derived.BigQuiet
import Derived.Lib.SlBytesConst
namespace Go.Proofs.Ytpgkimohekdmmaa.SimfsCopiesW
open Go.ChangeShapes Go.WideShapes Go.ChangeAt Go.RowKit
open Bytes8 Blk8 Own8 OwnA OwnM OwnE Fa Fb Fo Ta Ua Kf Dm Dp Dh Di Dj Dz Dq Dl Dx Dv Dy Pv8 Numb Keep8 Do6 Go.Maps
set_option linter.unusedVariables false
set_option linter.unusedSimpArgs false
set_option maxRecDepth 100000

theorem T_nil : ({ data := #[] } : ByteArray) = T [] := by decide
theorem name_zero (q : Int) (W : World) : Calls Try.prog 18 #[.agg #[.int .i64 0, .int .i64 0, .int .i64 0, .int .i64 0, .int .i64 0, .string { data := #[] }, .slice none 0 0, .slice none 0 0], .int .i64 q] W fun e w' => e = .returned (.string (T (nameOf [] q))) ∧ Grew W w' := by
  rw [T_nil]; exact name_any 0 0 0 0 0 [] none 0 0 none 0 0 q W
theorem nm_all (q : Int) : AllB (nameOf [] q) := nameOf_all (fun c h => by cases h) q
theorem nm_len (q : Int) : (nameOf [] q).length ≤ 1000 := Nat.le_trans (nameOf_len [] q) (by decide)
theorem names_ok {d : Dir} (h : Ua.Good d) : (∀ n ∈ d.names, AllB n ∧ n.length ≤ 1000) ∧ d.names.length ≤ 24 := by
  unfold Dir.names
  split
  · exact ⟨(fun n h => by cases h), by simp⟩
  · refine ⟨fun n hn => ?_, by rw [List.length_map]; exact h.row.few⟩
    obtain ⟨p, hp, rfl⟩ := List.mem_map.1 hn
    obtain ⟨h1, _, h3⟩ := nmOk_all (h.row.names p hp)
    exact ⟨h1, by omega⟩
def lO : List Int := [111, 116, 104, 101, 114]
theorem other_bytes (w : World) (M : Nat × Nat) : Bytes (w.alloc (.cells #[.int .u8 111, .int .u8 116, .int .u8 104, .int .u8 101, .int .u8 114] 5 M)) (some ⟨w.heap.size, 0, none⟩) lO :=
  Ff.const_bytes lO (fun x hx => by simp [lO] at hx; omega) w M

set_option maxHeartbeats 1000000 in
theorem walk_long (a : Option Addr) (len cap : Nat) (a2 : Option Addr) (len2 cap2 : Nat) (a3 a4 : Int) (w : World) (h : 15 < len ∨ 15 < len2) (hl : len ≤ 9223372036854775807) (hl2 : len2 ≤ 9223372036854775807) :
    Calls Try.prog 7 #[.slice a len cap, .slice a2 len2 cap2, .int .u64 a3, .int .i64 a4] w fun e w' => e = .returned (.bool true) ∧ Below w.heap.size w w' := by
  by_cases h : 15 < len
  · have hd : (15 : Int) < (len : Int) := by omega
    have hd1 : decide ((15 : Int) < (len : Int)) = true := by simp; omega
    go_enter Try.func7, Try.ntmps7
    go_wp2_with (go_at_call 8; (with_reducible refine (first_any _).mono ?_); rintro e w1 ⟨rfl, hbel⟩)
    go_ret
    exact ⟨rfl, hbel⟩
  · have hd1 : decide ((15 : Int) < (len : Int)) = false := by simp; omega
    have hd2 : decide ((15 : Int) < (len2 : Int)) = true := by simp; omega
    go_enter Try.func7, Try.ntmps7
    go_wp2_with (go_at_call 8; (with_reducible refine (first_any _).mono ?_); rintro e w1 ⟨rfl, hbel⟩)
    go_ret
    exact ⟨rfl, hbel⟩

set_option maxHeartbeats 16000000 in
theorem walk_in (a0 : Option Addr) (len0 cap0 : Nat) (D0 : Nat → DoV) (a1 : Option Addr) (len1 cap1 : Nat) (D1 : Nat → DoV) (n : Nat) (dirs : Int) (w : World) (hD0 : InDos w a0 len0 D0) (hD1 : InDos w a1 len1 D1) (h1 : len0 ≤ 15) (h2 : len1 ≤ 15) (hn : n < 18446744073709551616) (hd1 : -9223372036854775808 ≤ dirs) (hd2 : dirs ≤ 9223372036854775807) :
    Calls Try.prog 7 #[.slice a0 len0 cap0, .slice a1 len1 cap1, .int .u64 (n : Int), .int .i64 dirs] w fun e w' => e = .returned (.bool true) ∧ Below w.heap.size w w' := by
  have HD0 := Lib.hid hD0
  have HD1 := Lib.hid hD1
  have low : ∀ (A : Option Addr) (m : List Int), Bytes w A m → ∀ (k off : Nat), A = some ⟨k, off, none⟩ → 0 < m.length → k < w.heap.size := fun A m hb k off e hl => by
    obtain ⟨b', off', e', hlt, _⟩ := hb.2 0 hl
    rw [e] at e'; simp at e'; obtain ⟨rfl, rfl⟩ := e'; exact hlt
  have HLow := Lib.hid low
  have e46 : ((1048576 : Nat) : Int) = 1048576 := rfl
  have HNw := Lib.hid fun w1 (h : w.heap.size ≤ w1.heap.size) => new_b w1 w.heap.size h 1048576 (by omega) (by omega)
  rw [e46] at HNw
  have hq1 : decide ((15 : Int) < (len0 : Int)) = false := by simp; omega
  have hq2 : decide ((15 : Int) < (len1 : Int)) = false := by simp; omega
  clear hD0 hD1 low e46
  go_enter Try.func7, Try.ntmps7
  go_wp2_with (first
    | (go_at_call 8; (with_reducible refine (first_any _).mono ?_); rintro e w1 ⟨rfl, hb1⟩; have HB1 := Lib.hid hb1; clear hb1)
    | (go_at_call 9; (with_reducible refine (HNw.out w1 HB1.out.size).mono ?_); rintro e w2 ⟨g, rfl, hD2, hb2⟩; have HD2 := Lib.hid hD2; have HB2 := Lib.hid (HB1.out.trans hb2); clear hD2 hb2))
  go_loopw [12] (fun i wr => ∃ (k : Nat) (d : Dir), k ≤ len0 ∧ i = .int .i64 (k : Int) ∧ Hid (d.made ≤ 3 * k ∧ d.past.length ≤ 3 * k) ∧ Hid (DirB w.heap.size wr g d) ∧ Hid (Below w.heap.size w wr)) (fun i _ => len0 - (RowKit.intOf i).toNat)
  case atStart => exact ⟨0, _, by omega, rfl, Lib.hid ⟨Nat.le_refl _, Nat.le_refl _⟩, HD2, HB2⟩
  case round =>
    obtain ⟨k, d, hk, rfl, hMo, hDi, hB⟩ := hrel
    clear HNw HD2 HB2 HB1
    rcases Nat.lt_or_ge k len0 with hlt | hge
    · have hin : (k : Int) < (len0 : Int) := by omega
      obtain ⟨b, off, rfl, hbl, c0, c1, c2, c3, _, _, c6, _, hok⟩ := HD0.out k hlt
      generalize D0 k = dd at *
      obtain ⟨kd, ka, kb, kp, kn, X, A1, L1, C1, Z1, A2, L2, C2, K⟩ := dd
      obtain ⟨f0, f1, f2, f3, _, _, hrow, _⟩ := hok
      simp only at c0 c1 c2 c3 c6 f0 f1 f2 f3 hrow
      obtain ⟨hby, hBL, hcap1, hcap2, _⟩ := hrow.bytes
      generalize Z1.take L1 = body at hby hBL
      have HBody := Lib.hid hby
      have HBL := Lib.hid hBL
      have HBLow := Lib.hid (HLow.out A1 body hby)
      have Hc0 := Lib.hid c0
      have Hc1 := Lib.hid c1
      have Hc3 := Lib.hid c3
      have Hc6 := Lib.hid c6
      clear hby hBL hrow f1 f2 f3 c0 c1 c2 c3 c6
      have r1 := (hB.out.cell (p := ⟨b, _, none⟩) hbl).trans Hc1.out
      have r6 := (hB.out.cell (p := ⟨b, _, none⟩) hbl).trans Hc6.out
      by_cases hbig : 1500 < L1
      · have q2 : (1500 : Int) < (L1 : Int) := by omega
        go_wp2
        go_ret
        exact ⟨rfl, hB.out⟩
      have q1 : ¬ (1500 : Int) < (L1 : Int) := by omega
      obtain ⟨p, hp, hp4⟩ := below_nat kp 2000 (by decide)
      obtain ⟨NA, hNA⟩ : ∃ NA, NA = nameOf [] ka := ⟨_, rfl⟩
      have na1 : AllB NA := hNA ▸ nm_all ka
      have na2 : NA.length ≤ 1000 := hNA ▸ nm_len ka
      have HNm := Lib.hid (name_zero ka)
      rw [← hNA] at HNm
      obtain ⟨SA, hSA⟩ : ∃ SA, SA = T NA := ⟨_, rfl⟩
      rw [← hSA] at HNm
      have HSA := Lib.hid hSA
      have HNu := Lib.hid fun w => number_nat kp 2000 p w (by decide) (by decide) hp.out
      obtain ⟨mo1, mo2⟩ := hMo.out
      have HMk := Lib.hid fun W (h : DirB w.heap.size W g d) => make_b W w.heap.size g d h NA na1 na2 (by omega) (by omega)
      rw [← hSA] at HMk
      have more1 := more_make d NA
      generalize d.make NA = rm at *
      obtain ⟨cm, d2⟩ := rm
      simp only at HMk more1
      have HWr := Lib.hid fun W (h : DirB w.heap.size W g d2) (hb : Below w.heap.size w W) => write_b W W w.heap.size g d2 h (Below.refl _ _) NA na1 na2 (p : Int) A1 L1 C1 body (HBody.out.below hb (Nat.le_refl _)) HBL.out (by unfold maxLen at *; omega) (fun k off e h0 => .inl (HBLow.out k off e h0)) (by omega) (by omega)
      rw [← hSA] at HWr
      have more2 := more_write d2 NA (p : Int) body
      generalize d2.write NA (p : Int) body = rw2 at *
      obtain ⟨cw, d3⟩ := rw2
      simp only at HWr more2
      have HSy := Lib.hid fun W (h : DirB w.heap.size W g d3) => sync_b W w.heap.size g d3 h NA na1 na2
      rw [← hSA] at HSy
      have more3 := more_sync d3 NA
      generalize d3.sync NA = rs at *
      obtain ⟨cs, d4⟩ := rs
      simp only at HSy more3
      have HMo3 := Lib.hid (show d3.made ≤ 3 * (k + 1) ∧ d3.past.length ≤ 3 * (k + 1) from ⟨by have := more1.1; have := more2.1; omega, by have := more1.2; have := more2.2; omega⟩)
      have HMo4 := Lib.hid (show d4.made ≤ 3 * (k + 1) ∧ d4.past.length ≤ 3 * (k + 1) from ⟨by have := more1.1; have := more2.1; have := more3.1; omega, by have := more1.2; have := more2.2; have := more3.2; omega⟩)
      clear more1 more2 more3 hNA hSA hp mo1 mo2
      go_upto_region 15 with (first
        | (go_at_call 18; (with_reducible refine (HNm.out _).mono ?_); rintro e w2 ⟨rfl, hg2⟩; have HD2 := Lib.hid (hDi.out.below hg2.below); have HB2 := Lib.hid (hB.out.trans (hg2.below.mono hB.out.size)); clear hg2)
        | (go_at_call 12; (with_reducible refine (HMk.out w2 HD2.out).mono ?_); rintro e w3 ⟨rfl, hD3, hb3⟩; have HD3 := Lib.hid hD3; have HB3 := Lib.hid (HB2.out.trans hb3); clear hD3 hb3))
      clear r1 r6
      have hbd : Below w3.heap.size w3 w3.drew := below_drewN (Below.refl _ _) 1
      have HDd := Lib.hid (HD3.out.below hbd)
      have HBd := Lib.hid (show Below w.heap.size w w3.drew from below_drewN HB3.out 1)
      have s1 := (HBd.out.cell (p := ⟨b, _, none⟩) hbl).trans Hc1.out
      have s3 := (HBd.out.cell (p := ⟨b, _, none⟩) hbl).trans Hc3.out
      have s6 := (HBd.out.cell (p := ⟨b, _, none⟩) hbl).trans Hc6.out
      clear hbd
      go_region_held3 (fun w' => w'.cell? ⟨b, off + k * 8 + 1, none⟩ = some (.int .i64 ka) ∧ w'.cell? ⟨b, off + k * 8 + 3, none⟩ = some (.int .i64 kp) ∧ w'.cell? ⟨b, off + k * 8 + 6, none⟩ = some (.slice A1 L1 C1)) (first | (with_reducible exact ⟨s1, s3, s6⟩) | (with_reducible exact ⟨t1, t3, t6⟩) | (with_reducible exact ⟨u1, u3, u6⟩) | go_keep)
        (first
          | (go_at_call 18; (with_reducible refine (HNm.out _).mono ?_); rintro e w4 ⟨rfl, hg4⟩; have HD4 := Lib.hid (HDd.out.below hg4.below); have HB4 := Lib.hid (HBd.out.trans (hg4.below.mono HBd.out.size)); have t1 := (HB4.out.cell (p := ⟨b, _, none⟩) hbl).trans Hc1.out; have t3 := (HB4.out.cell (p := ⟨b, _, none⟩) hbl).trans Hc3.out; have t6 := (HB4.out.cell (p := ⟨b, _, none⟩) hbl).trans Hc6.out; clear hg4)
          | (go_at_call 11; (with_reducible refine (HNu.out _).mono ?_); rintro e w' ⟨rfl, rfl⟩)
          | (go_at_call 15; (with_reducible refine (HWr.out w4 HD4.out HB4.out).mono ?_); rintro e w5 ⟨rfl, hD5, hb5⟩; have HD5 := Lib.hid hD5; have HB5 := Lib.hid (HB4.out.trans hb5); have u1 := (HB5.out.cell (p := ⟨b, _, none⟩) hbl).trans Hc1.out; have u3 := (HB5.out.cell (p := ⟨b, _, none⟩) hbl).trans Hc3.out; have u6 := (HB5.out.cell (p := ⟨b, _, none⟩) hbl).trans Hc6.out; clear hD5 hb5))
      all_goals
        have v0 := (HB5.out.cell (p := ⟨b, _, none⟩) hbl).trans Hc0.out
        have v1 := (HB5.out.cell (p := ⟨b, _, none⟩) hbl).trans Hc1.out
        have hkd := bounds_i64 f0
        obtain ⟨hkd1, hkd2⟩ := hkd
        have ht : kd.tmod 2 = 0 ∨ kd.tmod 2 = 1 ∨ kd.tmod 2 = -1 := by
          have h3 := Int.tmod_lt_of_pos kd (b := 2) (by omega)
          have h4 := Int.lt_tmod_of_pos kd (b := 2) (by omega)
          omega
        rcases ht with ht | ht | ht
        · go_wp2_with (first
            | (go_at_call 18; (with_reducible refine (HNm.out _).mono ?_); rintro e w6 ⟨rfl, hg6⟩; have HD6 := Lib.hid (HD5.out.below hg6.below); have HB6 := Lib.hid (HB5.out.trans (hg6.below.mono HB5.out.size)); clear hg6)
            | (go_at_call 16; (with_reducible refine (HSy.out w6 HD6.out).mono ?_); rintro e w7 ⟨rfl, hD7, hb7⟩; have HD7 := Lib.hid hD7; have HB7 := Lib.hid (HB6.out.trans hb7); clear hD7 hb7))
          go_roundw
          case rel => exact ⟨k + 1, d4, by omega, by go_num, HMo4, HD7, HB7⟩
          case measure => simp [RowKit.intOf]; omega
        · go_wp2
          go_roundw
          case rel => exact ⟨k + 1, d3, by omega, by go_num, HMo3, HD5, HB5⟩
          case measure => simp [RowKit.intOf]; omega
        · go_wp2
          go_roundw
          case rel => exact ⟨k + 1, d3, by omega, by go_num, HMo3, HD5, HB5⟩
          case measure => simp [RowKit.intOf]; omega
    · obtain rfl : k = len0 := by omega
      have hin : ¬ ((k : Int) < (k : Int)) := by omega
      have hpd : d.past.length ≤ 45 := by have := hMo.out.2; omega
      obtain ⟨hBs, own, hDo, hlow⟩ := hDi.out
      have HDo := Lib.hid hDo
      have HLo := Lib.hid hlow
      have HCp1 := Lib.hid (copy_any wr own g d hDo)
      have HCp2 := Lib.hid fun W (h : Below wr.heap.size wr W) => copy_any W own g d (hDo.below h)
      clear hDo hlow hDi hMo
      go_wp2_with (first
        | (go_at_call 26; (with_reducible refine HCp1.out.mono ?_); rintro e w2 ⟨ga, rfl, hb2, oa, ha, ea⟩; have Hb2 := Lib.hid hb2; have Ha := Lib.hid ha; have Ea := Lib.hid ea; clear hb2 ha ea)
        | (go_at_call 26; (with_reducible refine (HCp2.out w2 Hb2.out).mono ?_); rintro e w3 ⟨gb, rfl, hb3, ob, hb', eb⟩; have HT3 := Lib.hid (copies_tri hBs HLo.out HDo.out Hb2.out Ha.out Ea.out hb3 hb' eb); have HB3 := Lib.hid (hB.out.trans ((Hb2.out.mono hB.out.size).trans (hb3.mono (Nat.le_trans hB.out.size Hb2.out.size)))); clear hb3 hb' eb))
      go_loopw [15] (fun i wr => ∃ (k : Nat) (da : Dir), k ≤ len1 ∧ i = .int .i64 (k : Int) ∧ Hid (da.past.length ≤ 45 + 3 * k) ∧ Hid (Tri w.heap.size wr ga gb g da d d) ∧ Hid (Below w.heap.size w wr)) (fun i _ => len1 - (RowKit.intOf i).toNat)
      case atStart => exact ⟨0, d, by omega, rfl, Lib.hid (by omega), HT3, HB3⟩
      case round =>
        obtain ⟨k, da, hk, rfl, hMo, hTr, hB⟩ := hrel
        clear HCp1 HCp2 HDo HLo Hb2 Ha Ea HT3 HB3
        rcases Nat.lt_or_ge k len1 with hlt | hge
        · have hin : (k : Int) < (len1 : Int) := by omega
          obtain ⟨b, off, rfl, hbl, c0, c1, c2, c3, _, _, c6, _, hok⟩ := HD1.out k hlt
          generalize D1 k = dd at *
          obtain ⟨kd, ka, kb, kp, kn, X, A1, L1, C1, Z1, A2, L2, C2, K⟩ := dd
          simp only at c1 c2
          have Hc1 := Lib.hid c1
          have Hc2 := Lib.hid c2
          clear c0 c1 c2 c3 c6 hok
          have r1 := (hB.out.cell (p := ⟨b, _, none⟩) hbl).trans Hc1.out
          obtain ⟨NA, hNA⟩ : ∃ NA, NA = nameOf [] ka := ⟨_, rfl⟩
          obtain ⟨NB, hNB⟩ : ∃ NB, NB = nameOf [] kb := ⟨_, rfl⟩
          have na1 : AllB NA := hNA ▸ nm_all ka
          have na2 : NA.length ≤ 1000 := hNA ▸ nm_len ka
          have nb1 : AllB NB := hNB ▸ nm_all kb
          have nb2 : NB.length ≤ 1000 := hNB ▸ nm_len kb
          have HNa := Lib.hid (name_zero ka)
          rw [← hNA] at HNa
          have HNb := Lib.hid (name_zero kb)
          rw [← hNB] at HNb
          obtain ⟨SA, hSA⟩ : ∃ SA, SA = T NA := ⟨_, rfl⟩
          obtain ⟨SB, hSB⟩ : ∃ SB, SB = T NB := ⟨_, rfl⟩
          rw [← hSA] at HNa
          rw [← hSB] at HNb
          have hmo := hMo.out
          have HDr := Lib.hid fun W (h : Tri w.heap.size W ga gb g da d d) => drop_t W w.heap.size ga gb g da d d h NA na1 na2 (by omega)
          rw [← hSA] at HDr
          have more1 := more_drop da NA
          generalize da.drop NA = rm at *
          obtain ⟨cm, d2⟩ := rm
          simp only at HDr more1
          have HRn := Lib.hid fun W (h : Tri w.heap.size W ga gb g d2 d d) => rename_t W w.heap.size ga gb g d2 d d h NA NB na1 na2 nb1 nb2 (by have := more1.2; omega)
          rw [← hSA, ← hSB] at HRn
          have more2 := more_rename d2 NA NB
          generalize d2.rename NA NB = rr at *
          obtain ⟨cr, d3⟩ := rr
          simp only at HRn more2
          have HWr := Lib.hid fun W (h : Tri w.heap.size W ga gb g d3 d d) (M : Nat × Nat) => write_t W (W.alloc (.cells #[.int .u8 111, .int .u8 116, .int .u8 104, .int .u8 101, .int .u8 114] 5 M)) w.heap.size ga gb g d3 d d h ((Below.refl _ _).alloc (Nat.le_refl _) _) NB nb1 nb2 0 (some ⟨W.heap.size, 0, none⟩) 5 5 lO (other_bytes W M) rfl (by decide) (fun b off e _ => by injection e with e; injection e with e; right; omega) (by omega) (by omega)
          rw [← hSB] at HWr
          have more3 := more_write d3 NB 0 lO
          generalize d3.write NB 0 lO = rw2 at *
          obtain ⟨cw, d4⟩ := rw2
          simp only at HWr more3
          have HMo4 := Lib.hid (show d4.past.length ≤ 45 + 3 * (k + 1) by have := more1.2; have := more2.2; have := more3.2; omega)
          have kc := fun (w : World) (C : Array Value) (n c : Nat) => Lib.run_convert_bytes_const (P := Try.prog) w 32 5 C n c Try.underlying32 Try.underlying5
          clear more1 more2 more3 hNA hNB hSA hSB hmo
          go_upto_region 25 with (first
            | (go_at_call 18; (with_reducible refine (HNa.out _).mono ?_); rintro e w2 ⟨rfl, hg2⟩; have HD2 := Lib.hid (hTr.out.below hg2.below); have HB2 := Lib.hid (hB.out.trans (hg2.below.mono hB.out.size)); clear hg2)
            | (go_at_call 13; (with_reducible refine (HDr.out w2 HD2.out).mono ?_); rintro e w3 ⟨rfl, hD3, hb3⟩; have HD3 := Lib.hid hD3; have HB3 := Lib.hid (HB2.out.trans hb3); clear hD3 hb3))
          clear r1
          have hbd : Below w3.heap.size w3 w3.drew := below_drewN (Below.refl _ _) 1
          have HDd := Lib.hid (HD3.out.below hbd)
          have HBd := Lib.hid (show Below w.heap.size w w3.drew from below_drewN HB3.out 1)
          have s1 := (HBd.out.cell (p := ⟨b, _, none⟩) hbl).trans Hc1.out
          have s2 := (HBd.out.cell (p := ⟨b, _, none⟩) hbl).trans Hc2.out
          clear hbd
          go_region_held3 (fun w' => w'.cell? ⟨b, off + k * 8 + 1, none⟩ = some (.int .i64 ka) ∧ w'.cell? ⟨b, off + k * 8 + 2, none⟩ = some (.int .i64 kb)) (first | (with_reducible exact ⟨s1, s2⟩) | (with_reducible exact ⟨t1, t2⟩) | (with_reducible exact ⟨u1, u2⟩) | (with_reducible exact ⟨v1, v2⟩) | go_keep)
            (first
              | (go_at_call 18; (with_reducible refine (HNa.out w3.drew).mono ?_); rintro e w4 ⟨rfl, hg4⟩; have HD4 := Lib.hid (HDd.out.below hg4.below); have HB4 := Lib.hid (HBd.out.trans (hg4.below.mono HBd.out.size)); have t1 := (HB4.out.cell (p := ⟨b, _, none⟩) hbl).trans Hc1.out; have t2 := (HB4.out.cell (p := ⟨b, _, none⟩) hbl).trans Hc2.out; clear hg4)
              | (go_at_call 18; (with_reducible refine (HNb.out w4).mono ?_); rintro e w5 ⟨rfl, hg5⟩; have HD5 := Lib.hid (HD4.out.below hg5.below); have HB5 := Lib.hid (HB4.out.trans (hg5.below.mono HB4.out.size)); have u1 := (HB5.out.cell (p := ⟨b, _, none⟩) hbl).trans Hc1.out; have u2 := (HB5.out.cell (p := ⟨b, _, none⟩) hbl).trans Hc2.out; clear hg5)
              | (go_at_call 18; (with_reducible refine (HNb.out w3.drew).mono ?_); rintro e w4 ⟨rfl, hg4⟩; have HD4 := Lib.hid (HDd.out.below hg4.below); have HB4 := Lib.hid (HBd.out.trans (hg4.below.mono HBd.out.size)); have t1 := (HB4.out.cell (p := ⟨b, _, none⟩) hbl).trans Hc1.out; have t2 := (HB4.out.cell (p := ⟨b, _, none⟩) hbl).trans Hc2.out; clear hg4)
              | (go_at_call 18; (with_reducible refine (HNa.out w4).mono ?_); rintro e w5 ⟨rfl, hg5⟩; have HD5 := Lib.hid (HD4.out.below hg5.below); have HB5 := Lib.hid (HB4.out.trans (hg5.below.mono HB4.out.size)); have u1 := (HB5.out.cell (p := ⟨b, _, none⟩) hbl).trans Hc1.out; have u2 := (HB5.out.cell (p := ⟨b, _, none⟩) hbl).trans Hc2.out; clear hg5)
              | (go_at_call 19; (with_reducible refine (HRn.out w5 HD5.out).mono ?_); rintro e w6 ⟨rfl, hD6, hb6⟩; have HD6 := Lib.hid hD6; have HB6 := Lib.hid (HB5.out.trans hb6); have v1 := (HB6.out.cell (p := ⟨b, _, none⟩) hbl).trans Hc1.out; have v2 := (HB6.out.cell (p := ⟨b, _, none⟩) hbl).trans Hc2.out; clear hD6 hb6))
          all_goals
            go_wp2_with (first
              | (go_at_call 18; (with_reducible refine (HNb.out _).mono ?_); rintro e w7 ⟨rfl, hg7⟩; have HD7 := Lib.hid (HD6.out.below hg7.below); have HB7 := Lib.hid (HB6.out.trans (hg7.below.mono HB6.out.size)); clear hg7)
              | (go_at_call 15; (with_reducible refine (HWr.out w7 HD7.out _).mono ?_); rintro e w8 ⟨rfl, hD8, hb8⟩; have HD8 := Lib.hid hD8; have HB8 := Lib.hid ((HB7.out.alloc HB7.out.size _).trans hb8); clear hD8 hb8))
            go_roundw
            case rel => exact ⟨k + 1, d4, by omega, by go_num, HMo4, HD8, HB8⟩
            case measure => simp [RowKit.intOf]; omega
        · obtain rfl : k = len1 := by omega
          have hin : ¬ ((k : Int) < (k : Int)) := by omega
          have HC1 := Lib.hid (crash_nil_t wr w.heap.size ga gb g da d d hTr.out 1 (by omega) (by omega))
          obtain ⟨da9, hda9⟩ : ∃ x, x = da.crash 0 (fun _ => false) 1 := ⟨_, rfl⟩
          obtain ⟨d9, hd9⟩ : ∃ x, x = d.crash 64 (fun i => n.testBit i) dirs := ⟨_, rfl⟩
          rw [← hda9] at HC1
          have HKe := Lib.hid fun w6 => keep_any n hn w6
          have HC2 := Lib.hid fun W0 W A c (h : Tri w.heap.size W0 ga gb g da9 d d) (hb : Below W0.heap.size W0 W) (ho : OwnE 4 1 W W0.heap.size A 64 c (bitsV n 64)) => crash_keep_t W0 W w.heap.size gb g ga d d da9 h.rot hb n A c ho dirs hd1 hd2
          have HC3 := Lib.hid fun W0 W A c (h : Tri w.heap.size W0 gb g ga d9 d da9) (hb : Below W0.heap.size W0 W) (ho : OwnE 4 1 W W0.heap.size A 64 c (bitsV n 64)) => crash_keep_t W0 W w.heap.size g ga gb d da9 d9 h.rot hb n A c ho dirs hd1 hd2
          rw [← hd9] at HC2 HC3
          have HN1 := Lib.hid fun W (h : Tri w.heap.size W gb g ga d9 d9 da9) => names_t W w.heap.size gb g ga d9 d9 da9 h
          have HN2 := Lib.hid fun W (h : Tri w.heap.size W gb g ga d9 d9 da9) => names_t W w.heap.size g ga gb d9 da9 d9 h.rot
          have HOk := Lib.hid fun W (h : Tri w.heap.size W gb g ga d9 d9 da9) => names_ok h.good
          obtain ⟨nms, hnms⟩ : ∃ x, x = d9.names := ⟨_, rfl⟩
          rw [← hnms] at HN1 HN2 HOk
          obtain ⟨N, hN⟩ : ∃ x, x = nms.length := ⟨_, rfl⟩
          rw [← hN] at HN1 HN2 HOk
          have HN := Lib.hid hN
          clear hda9 hd9 hnms hN
          go_wp2_with (first
            | (go_at_call 20; (with_reducible refine HC1.out.mono ?_); rintro e w4 ⟨rfl, hT4, hb4⟩; have HT4 := Lib.hid hT4; have HB4 := Lib.hid (hB.out.trans hb4); clear hT4 hb4)
            | (go_at_call 21; (with_reducible refine (HKe.out w4).mono ?_); rintro e w5 ⟨A5, c5, rfl, ho5, hb5⟩; have HO5 := Lib.hid ho5; have HB5 := Lib.hid hb5; clear ho5 hb5)
            | (go_at_call 20; (with_reducible refine (HC2.out w4 w5 A5 c5 HT4.out HB5.out HO5.out).mono ?_); rintro e w6 ⟨rfl, hT6, hb6⟩; have HT6 := Lib.hid hT6; have HB6 := Lib.hid ((HB4.out.trans (HB5.out.mono HB4.out.size)).trans hb6); clear hT6 hb6)
            | (go_at_call 21; (with_reducible refine (HKe.out w6).mono ?_); rintro e w7 ⟨A7, c7, rfl, ho7, hb7⟩; have HO7 := Lib.hid ho7; have HB7 := Lib.hid hb7; clear ho7 hb7)
            | (go_at_call 20; (with_reducible refine (HC3.out w6 w7 A7 c7 HT6.out HB7.out HO7.out).mono ?_); rintro e w8 ⟨rfl, hT8, hb8⟩; have HT8 := Lib.hid hT8.rot.rot; have HB8 := Lib.hid ((HB6.out.trans (HB7.out.mono HB6.out.size)).trans hb8); clear hT8 hb8)
            | (go_at_call 14; (with_reducible refine (HN1.out w8 HT8.out).mono ?_); rintro e w9 ⟨A9, c9, rfl, hx9, hT9, hb9⟩; have HX9 := Lib.hid hx9; have HT9 := Lib.hid hT9; have HB9 := Lib.hid (HB8.out.trans (hb9.mono HB8.out.size)); clear hx9 hT9 hb9)
            | (go_at_call 14; (with_reducible refine (HN2.out w9 HT9.out).mono ?_); rintro e w10 ⟨A10, c10, rfl, hx10, _, hb10⟩
               have HT10 := Lib.hid (HT9.out.below hb10)
               have HB10 := Lib.hid (HB9.out.trans (hb10.mono HB9.out.size))
               have HSt := Lib.hid (stexts_yes A9 A10 nms N c9 c10 w10 (HX9.out.below hb10) hx10 HN.out.symm (by have := (HOk.out w9 HT9.out).2; omega))
               clear hx10 hb10)
            | (go_at_call 27; (with_reducible refine HSt.out.mono ?_); rintro e w11 ⟨rfl, hb11⟩; have HT11 := Lib.hid (HT10.out.below hb11); have HB11 := Lib.hid (HB10.out.trans (hb11.mono HB10.out.size)); clear hb11)
            | (go_at_call 14; (with_reducible refine (HN2.out w11 HT11.out).mono ?_); rintro e w12 ⟨A12, c12, rfl, hx12, _, hb12⟩; have HX12 := Lib.hid hx12; have HT12 := Lib.hid (HT11.out.below hb12); have HB12 := Lib.hid (HB11.out.trans (hb12.mono HB11.out.size)); clear hx12 hb12))
          go_loopw [17] (fun i wr => ∃ (k : Nat), k ≤ N ∧ i = .int .i64 (k : Int) ∧ Hid (Tri w.heap.size wr gb g ga d9 d9 da9) ∧ Hid (Txts wr A12 nms) ∧ Hid (Below w.heap.size w wr)) (fun i _ => N - (RowKit.intOf i).toNat)
          case atStart => exact ⟨0, by omega, rfl, HT12, HX12, HB12⟩
          case round =>
            obtain ⟨k, hk, rfl, hT, hX, hBl⟩ := hrel
            clear HC1 HC2 HC3 HN1 HN2 HT4 HT6 HT8 HT9 HT10 HT11 HT12 HX9 HX12 HSt HB4 HB5 HB6 HB7 HB8 HB9 HB10 HB11 HB12 hTr
            rcases Nat.lt_or_ge k N with hlt | hge
            · have hin : (k : Int) < (N : Int) := by omega
              have hkn : k < nms.length := by rw [← HN.out]; exact hlt
              obtain ⟨b, off, rfl, hbl, hc⟩ := hX.out k hkn
              have hmem : nms.getD k [] ∈ nms := by rw [List.getD_eq_getElem?_getD, List.getElem?_eq_getElem hkn]; exact List.getElem_mem hkn
              obtain ⟨nA, nl⟩ := (HOk.out wr hT.out).1 _ hmem
              have hN24 := (HOk.out wr hT.out).2
              generalize nms.getD k [] = nm at *
              have HA1 := Lib.hid (all_t wr w.heap.size gb g ga d9 d9 da9 hT.out nm nA nl)
              have HA2 := Lib.hid fun W (h : Tri w.heap.size W gb g ga d9 d9 da9) => all_t W w.heap.size g ga gb d9 da9 d9 h.rot nm nA nl
              generalize d9.all nm = r at *
              obtain ⟨C, l⟩ := r
              simp only at HA1 HA2
              obtain ⟨L, hL⟩ : ∃ x, x = l.length := ⟨_, rfl⟩
              rw [← hL] at HA1 HA2
              have HSm := Lib.hid fun (W : World) (A A' : Option Addr) (c c' : Nat) (h : Bytes W A l) (h' : Bytes W A' l) => Ff.same_any A A' l l L c L c' W h h' hL.symm hL.symm
              rw [show decide (l = l) = true by simp] at HSm
              obtain ⟨SN, hSN⟩ : ∃ x, x = T nm := ⟨_, rfl⟩
              rw [← hSN] at HA1 HA2 hc
              have HBlk := Lib.hid hbl
              clear hSN hL nA nl hmem hkn
              go_wp2_with (first
                | (go_at_call 22; (with_reducible refine HA1.out.mono ?_); rintro e w2 ⟨A2, m2, rfl, hy2, hT2, hb2⟩; have HY2 := Lib.hid hy2; have HT2 := Lib.hid hT2; have Hb2 := Lib.hid hb2; have hc2 := (hb2.cell (p := ⟨b, _, none⟩) HBlk.out).trans hc; clear hy2 hT2 hb2)
                | (go_at_call 22; (with_reducible refine (HA2.out w2 HT2.out).mono ?_); rintro e w3 ⟨A3, m3, rfl, hy3, _, hb3⟩; have HS3 := Lib.hid (HSm.out w3 A2 A3 m2 m3 (HY2.out.below hb3 (Nat.le_refl _)) hy3); have HT3 := Lib.hid (HT2.out.below hb3); have Hb3 := Lib.hid (Hb2.out.trans (hb3.mono Hb2.out.size)); clear hy3 hb3)
                | (go_at_call 23; (with_reducible refine HS3.out.mono ?_); rintro e w' ⟨rfl, rfl⟩))
              go_roundw
              case rel => exact ⟨k + 1, by omega, by go_num, HT3, Lib.hid (hX.out.below Hb3.out), Lib.hid (hBl.out.trans (Hb3.out.mono hBl.out.size))⟩
              case measure => simp [RowKit.intOf]; omega
            · obtain rfl : k = N := by omega
              have hin : ¬ ((k : Int) < (k : Int)) := by omega
              go_wp2
              go_ret
              exact ⟨rfl, hBl.out⟩

theorem walk (a0 : Option Addr) (len0 cap0 : Nat) (D0 : Nat → DoV) (a1 : Option Addr) (len1 cap1 : Nat) (D1 : Nat → DoV) (a2 a3 : Int) (w : World) (w0 : InDos w a0 len0 D0 ∧ len0 ≤ cap0 ∧ cap0 ≤ maxLen) (w1 : InDos w a1 len1 D1 ∧ len1 ≤ cap1 ∧ cap1 ≤ maxLen) (w2 : (Lit.int .u64 a2).wf = true) (w3 : (Lit.int .i64 a3).wf = true) :
    Calls Try.prog 7 #[.slice a0 len0 cap0, .slice a1 len1 cap1, .int .u64 a2, .int .i64 a3] w fun e w' => e = .returned (.bool true) ∧ Below w.heap.size w w' := by
  obtain ⟨hD0, hc1, hc2⟩ := w0
  obtain ⟨hD, hc3, hc4⟩ := w1
  unfold maxLen at hc2 hc4
  by_cases h : 15 < len0 ∨ 15 < len1
  · exact walk_long a0 len0 cap0 a1 len1 cap1 a2 a3 w h (by omega) (by omega)
  · obtain ⟨n, rfl⟩ : ∃ n : Nat, a2 = (n : Int) := ⟨a2.toNat, by have := bounds_u64 w2; omega⟩
    have b2 := bounds_u64 w2
    obtain ⟨p0, p1⟩ := bounds_i64 w3
    exact walk_in a0 len0 cap0 D0 a1 len1 cap1 D1 n a3 w hD0 hD (by omega) (by omega) (by omega) p0 p1
end Go.Proofs.Ytpgkimohekdmmaa.SimfsCopiesW
