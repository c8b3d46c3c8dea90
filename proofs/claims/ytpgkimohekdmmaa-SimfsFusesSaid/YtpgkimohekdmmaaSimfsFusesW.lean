/-
  The walk of SimfsFuses: at any numbers the law returns true, and nothing that was there is written.
-/
import Derived.Test.YtpgkimohekdmmaaDi
import Derived.Test.YtpgkimohekdmmaaSB
import Derived.Test.YtpgkimohekdmmaaNumb
import Derived.Lib.SlBytesConst
namespace Go.Proofs.Ytpgkimohekdmmaa.SimfsFusesW
open Go.ChangeShapes Go.WideShapes Go.ChangeAt Go.RowKit
open Bytes8 Blk8 Own8 OwnA OwnM OwnE Fa Fo Ta Ua Kf Dm Dp Dh Di Dl Dx Pv8 Numb Keep8 Go.Maps
set_option linter.unusedVariables false
set_option linter.unusedSimpArgs false
set_option maxRecDepth 100000

theorem T_b : ({ data := #[98] } : ByteArray) = T [98] := by decide
/-- One byte in a block of its own. -/
theorem one_byte (w : World) (c : Int) (hc : 0 ≤ c ∧ c < 256) (M : Nat × Nat) : Bytes (w.alloc (.cells #[.int .u8 c] 5 M)) (some ⟨w.heap.size, 0, none⟩) [c] :=
  Ff.const_bytes [c] (fun x hx => by simp at hx; subst hx; exact hc) w M

theorem off_calls {d : Dir} (h : d.off = true) : d.names.length = 0 ∧ d.free = 0 ∧ d.make [98] = (18, d) ∧ d.sync [97] = (18, d) ∧ d.syncDir = (18, d) := by
  have ha : ∀ n, d.ask n = 18 := fun n => by unfold Dir.ask; rw [h, if_pos rfl]
  refine ⟨by unfold Dir.names; rw [h, if_pos rfl]; rfl, by unfold Dir.free; rw [h, if_pos rfl], ?_, ?_, ?_⟩
  · unfold Dir.make; rw [ha, if_pos (by omega)]
  · unfold Dir.sync; rw [file_off h, if_pos (by omega)]
  · unfold Dir.syncDir; rw [h, if_pos rfl]

set_option maxHeartbeats 4000000 in
theorem walk_in (N C : Nat) (a0 a1 : Int) (w : World) (hN : numBelow a0 20 = N) (hN2 : N < 20) (hC : numBelow a1 30 = C) (hC2 : C < 30) :
    Calls Try.prog 6 #[.int .i64 a0, .int .i64 a1] w fun e w' => e = .returned (.bool true) ∧ Below w.heap.size w w' := by
  have HN := Lib.hid hN
  have HC := Lib.hid hC
  obtain ⟨m1, m2, _⟩ := made_make (made_new 4096) (by decide) nm_a rfl
  obtain ⟨s1, s2, _⟩ := made_sync m2
  have HF0 := Lib.hid (fused_new nm_a N).2
  have e46 : ((4096 : Nat) : Int) = 4096 := rfl
  have HNw := Lib.hid fun w1 (h : w.heap.size ≤ w1.heap.size) => new_b w1 w.heap.size h 4096 (by omega) (by omega)
  rw [e46] at HNw
  have HM := Lib.hid fun w1 g (h : DirB w.heap.size w1 g (Dir.new 4096)) => make_b w1 w.heap.size g _ h [97] all_a (by decide) (by show 0 < _; omega) (by show 0 < _; omega)
  rw [m1, ← T_a] at HM
  have HS := Lib.hid fun w1 g (h : DirB w.heap.size w1 g ((Dir.new 4096).make [97]).2) => syncDir_b w1 w.heap.size g _ h
  rw [s1] at HS
  have HFu := Lib.hid fun w1 g (h : DirB w.heap.size w1 g ((Dir.new 4096).make [97]).2.syncDir.2) => fuse_b w1 w.heap.size g _ h (N : Int) (by omega) (by omega)
  clear e46 hN hC m1 m2 s1 s2
  go_enter Try.func6, Try.ntmps6
  go_wp2_with (first
    | (go_at_call 8; (with_reducible refine (first_any _).mono ?_); rintro e w1 ⟨rfl, hb1⟩; have HB1 := Lib.hid hb1; clear hb1)
    | (go_at_call 9; (with_reducible refine (HNw.out w1 HB1.out.size).mono ?_); rintro e w2 ⟨g, rfl, hD2, hb2⟩; have HD2 := Lib.hid hD2; have HB2 := Lib.hid (HB1.out.trans hb2); clear hD2 hb2)
    | (go_at_call 12; (with_reducible refine (HM.out w2 g HD2.out).mono ?_); rintro e w3 ⟨rfl, hD3, hb3⟩; have HD3 := Lib.hid hD3; have HB3 := Lib.hid (HB2.out.trans hb3); clear hD3 hb3)
    | (go_at_call 17; (with_reducible refine (HS.out w3 g HD3.out).mono ?_); rintro e w4 ⟨rfl, hD4, hb4⟩; have HD4 := Lib.hid hD4; have HB4 := Lib.hid (HB3.out.trans hb4); clear hD4 hb4)
    | (go_at_call 11; (with_reducible refine (number_nat a0 20 N _ (by decide) (by decide) HN.out).mono ?_); rintro e w' ⟨rfl, rfl⟩)
    | (go_at_call 11; (with_reducible refine (number_nat a1 30 C _ (by decide) (by decide) HC.out).mono ?_); rintro e w' ⟨rfl, rfl⟩)
    | (go_at_call 24; (with_reducible refine (HFu.out w4 g HD4.out).mono ?_); rintro e w5 ⟨rfl, hD5, hb5⟩; have HD5 := Lib.hid hD5; have HB5 := Lib.hid (HB4.out.trans hb5); clear hD5 hb5))
  go_loopw [8, 9] (fun dn i wr => ∃ (k : Nat) (d : Dir), k ≤ C ∧ i = .int .i64 (k : Int) ∧ dn = .int .i64 ((min k N : Nat) : Int) ∧ Hid (Fused d [97] N k) ∧ Hid (DirB w.heap.size wr g d) ∧ Hid (Below w.heap.size w wr)) (fun _ i _ => C - (RowKit.intOf i).toNat)
  case atStart => exact ⟨0, _, by omega, rfl, by simp, HF0, HD5, HB5⟩
  case round =>
    obtain ⟨k, d, hk, rfl, rfl, hF, hD, hB⟩ := hrel
    rcases Nat.lt_or_ge k C with hlt | hge
    · have hin : (k : Int) < (C : Int) := by omega
      obtain ⟨f1, f2⟩ := fused_step hF.out (by omega) (c := ((k + 1 : Nat) : Int)) ⟨by omega, by omega⟩
      have hwr := write_b wr (wr.alloc (.cells #[.int .u8 ((k + 1 : Nat) : Int)] 5)) w.heap.size g d hD.out ((Below.refl _ _).alloc (Nat.le_refl _) _) [97] all_a (by decide) (k : Int) (some ⟨wr.heap.size, 0, none⟩) 1 1 [((k + 1 : Nat) : Int)] (one_byte wr _ ⟨by omega, by omega⟩ (0, 0)) rfl (by decide) (fun b off e _ => by injection e with e; injection e with e; right; omega) (by omega) (by omega)
      rw [f1, ← T_a] at hwr
      have ek : ((k + 1 : Nat) : Int) = (k : Int) + 1 := by omega
      rw [ek] at hwr f2
      have HWr := Lib.hid hwr
      have HF2 := Lib.hid f2
      have HOff := Lib.hid f2.off
      have hcv : IntKind.u8.wrap ((k : Int) + 1) = (k : Int) + 1 := by rw [IntKind.wrap_u8]; omega
      clear hwr f1 f2 ek
      by_cases hkn : k < N
      · rw [if_pos hkn] at HWr
        have hmin : ((min k N : Nat) : Int) = (k : Int) := by omega
        have hmin2 : ((min (k + 1) N : Nat) : Int) = (k : Int) + 1 := by omega
        rw [hmin]
        go_wp2_with (go_at_call 15; (with_reducible refine HWr.out.mono ?_); rintro e w6 ⟨rfl, hD6, hb6⟩; have HD6 := Lib.hid hD6; have HB6 := Lib.hid ((hB.out.alloc hB.out.size _).trans hb6); clear hD6 hb6)
        go_roundw
        case rel => exact ⟨k + 1, _, by omega, by go_num, by rw [hmin2], HF2, HD6, HB6⟩
        case measure => simp [RowKit.intOf]; omega
      · rw [if_neg hkn] at HWr
        have hmin2 : ((min (k + 1) N : Nat) : Int) = ((min k N : Nat) : Int) := by omega
        have HOf := Lib.hid fun w6 (h : DirB w.heap.size w6 g (d.write [97] (k : Int) [(k : Int) + 1]).2) => off_b w6 w.heap.size g _ h
        rw [HOff.out (by omega)] at HOf
        go_wp2_with (first
          | (go_at_call 15; (with_reducible refine HWr.out.mono ?_); rintro e w6 ⟨rfl, hD6, hb6⟩; have HD6 := Lib.hid hD6; have HB6 := Lib.hid ((hB.out.alloc hB.out.size _).trans hb6); clear hD6 hb6)
          | (go_at_call 25; (with_reducible refine (HOf.out w6 HD6.out).mono ?_); rintro e w7 ⟨rfl, rfl⟩))
        go_roundw
        case rel => exact ⟨k + 1, _, by omega, by go_num, by rw [hmin2], HF2, HD6, HB6⟩
        case measure => simp [RowKit.intOf]; omega
    · obtain rfl : k = C := by omega
      have hin : ¬ ((k : Int) < (k : Int)) := by omega
      obtain ⟨c1, c2, c3⟩ := fused_crash hF.out (fun i => (18446744073709551615 : Nat).testBit i) (fun j hj => by
        have : ∀ j, j < 64 → (18446744073709551615 : Nat).testBit j = true := by decide
        exact this j hj) 100 (by omega) 122
      have hlen := hF.out.len
      have HOf := off_b wr w.heap.size g d hD.out
      have HKe := Lib.hid fun w6 => keep_any 18446744073709551615 (by decide) w6
      have e64 : ((18446744073709551615 : Nat) : Int) = 18446744073709551615 := rfl
      rw [e64] at HKe
      have HCr := Lib.hid fun w6 w7 A c (h : DirB w.heap.size w6 g d) (hb : Below w6.heap.size w6 w7) (ho : OwnE 4 1 w7 w6.heap.size A 64 c (bitsV 18446744073709551615 64)) => crash_keep w6 w7 w.heap.size g d h hb 18446744073709551615 A c ho 100 (by omega) (by omega)
      obtain ⟨d9, hd9⟩ : ∃ d9, d9 = d.crash 64 (fun i => (18446744073709551615 : Nat).testBit i) 100 := ⟨_, rfl⟩
      rw [← hd9] at HCr c1 c2 c3
      have HAl := Lib.hid fun w6 (h : DirB w.heap.size w6 g d9) => all_b w6 w.heap.size g d9 h [97] all_a (by decide)
      rw [c1, ← T_a] at HAl
      simp only at HAl
      rw [hlen] at HAl
      have HO9 := Lib.hid fun w6 (h : DirB w.heap.size w6 g d9) => off_b w6 w.heap.size g d9 h
      rw [c2] at HO9
      have HW9 := Lib.hid fun w6 (h : DirB w.heap.size w6 g d9) (M : Nat × Nat) => write_b w6 (w6.alloc (.cells #[.int .u8 122] 5 M)) w.heap.size g d9 h ((Below.refl _ _).alloc (Nat.le_refl _) _) [97] all_a (by decide) 0 (some ⟨w6.heap.size, 0, none⟩) 1 1 [122] (one_byte w6 _ ⟨by omega, by omega⟩ M) rfl (by decide) (fun b off e _ => by injection e with e; injection e with e; right; omega) (by omega) (by omega)
      rw [c3, ← T_a] at HW9
      have hmi : min (N : Int) (k : Int) = ((min k N : Nat) : Int) := by omega
      have hmi2 : (if (k : Int) < (N : Int) then (k : Int) else (N : Int)) = ((min k N : Nat) : Int) := by split <;> omega
      have kc := fun (w : World) (C : Array Value) (n c : Nat) => Lib.run_convert_bytes_const (P := Try.prog) w 32 5 C n c Try.underlying32 Try.underlying5
      clear c1 c2 c3 hlen hd9 e64
      by_cases hkn : N < k
      · have hkn' : (N : Int) < (k : Int) := by omega
        obtain ⟨o1, o2, o3, o4, o5⟩ := off_calls (hF.out.off hkn)
        rw [hF.out.off hkn] at HOf
        have HNm := Lib.hid fun w6 (h : DirB w.heap.size w6 g d) => names_b w6 w.heap.size g d h
        rw [o1] at HNm
        have HFr := Lib.hid fun w6 (h : DirB w.heap.size w6 g d) => free_b w6 w.heap.size g d h
        rw [o2] at HFr
        have HMk := Lib.hid fun w6 (h : DirB w.heap.size w6 g d) => make_b w6 w.heap.size g d h [98] (nmOk_all (show nmOk [98] = true by decide)).1 (by decide) (by have := hF.out.made; omega) (by have := hF.out.past; rw [this]; show 0 < _; omega)
        rw [o3, ← T_b] at HMk
        have HSy := Lib.hid fun w6 (h : DirB w.heap.size w6 g d) => sync_b w6 w.heap.size g d h [97] all_a (by decide)
        rw [o4, ← T_a] at HSy
        have HSd := Lib.hid fun w6 (h : DirB w.heap.size w6 g d) => syncDir_b w6 w.heap.size g d h
        rw [o5] at HSd
        clear o1 o2 o3 o4 o5
        go_wp2_with (first
          | (go_at_call 25; (with_reducible refine HOf.mono ?_); rintro e w7 ⟨rfl, rfl⟩)
          | (go_at_call 14; (with_reducible refine (HNm.out wr hD.out).mono ?_); rintro e w6 ⟨A6, c6, rfl, _, hD6, hb6⟩; have HD6 := Lib.hid hD6; have HB6 := Lib.hid (hB.out.trans hb6); clear hD6 hb6)
          | (go_at_call 10; (with_reducible refine (HFr.out w6 HD6.out).mono ?_); rintro e w7 ⟨rfl, hD7, hb7⟩; have HD7 := Lib.hid hD7; have HB7 := Lib.hid (HB6.out.trans hb7); clear hD7 hb7)
          | (go_at_call 12; (with_reducible refine (HMk.out w7 HD7.out).mono ?_); rintro e w8 ⟨rfl, hD8, hb8⟩; have HD8 := Lib.hid hD8; have HB8 := Lib.hid (HB7.out.trans hb8); clear hD8 hb8)
          | (go_at_call 16; (with_reducible refine (HSy.out w8 HD8.out).mono ?_); rintro e w9 ⟨rfl, hD9, hb9⟩; have HD9 := Lib.hid hD9; have HB9 := Lib.hid (HB8.out.trans hb9); clear hD9 hb9)
          | (go_at_call 17; (with_reducible refine (HSd.out w9 HD9.out).mono ?_); rintro e w10 ⟨rfl, hD10, hb10⟩; have HD10 := Lib.hid hD10; have HB10 := Lib.hid (HB9.out.trans hb10); clear hD10 hb10)
          | (go_at_call 21; (with_reducible refine (HKe.out w10).mono ?_); rintro e w11 ⟨A11, c11, rfl, ho11, hb11⟩; have HO11 := Lib.hid ho11; have HB11 := Lib.hid hb11; clear ho11 hb11)
          | (go_at_call 20; (with_reducible refine (HCr.out w10 w11 A11 c11 HD10.out HB11.out HO11.out).mono ?_); rintro e w12 ⟨rfl, hD12, hb12⟩; have HD12 := Lib.hid hD12; have HB12 := Lib.hid ((HB10.out.trans (HB11.out.mono HB10.out.size)).trans hb12); clear hD12 hb12)
          | (go_at_call 22; (with_reducible refine (HAl.out w12 HD12.out).mono ?_); rintro e w13 ⟨A13, c13, rfl, _, hD13, hb13⟩; have HD13 := Lib.hid hD13; have HB13 := Lib.hid (HB12.out.trans hb13); clear hD13 hb13)
          | (go_at_call 25; (with_reducible refine (HO9.out w13 HD13.out).mono ?_); rintro e w7 ⟨rfl, rfl⟩)
          | (go_at_call 15; (with_reducible refine (HW9.out w13 HD13.out _).mono ?_); rintro e w14 ⟨rfl, _, hb14⟩; have HB14 := Lib.hid ((HB13.out.alloc HB13.out.size _).trans hb14); clear hb14))
        go_ret
        exact ⟨rfl, HB14.out⟩
      · have hkn' : ¬ (N : Int) < (k : Int) := by omega
        rw [(hF.out.on (by omega)).1] at HOf
        go_wp2_with (first
          | (go_at_call 25; (with_reducible refine HOf.mono ?_); rintro e w7 ⟨rfl, rfl⟩)
          | (go_at_call 21; (with_reducible refine (HKe.out wr).mono ?_); rintro e w11 ⟨A11, c11, rfl, ho11, hb11⟩; have HO11 := Lib.hid ho11; have HB11 := Lib.hid hb11; clear ho11 hb11)
          | (go_at_call 20; (with_reducible refine (HCr.out wr w11 A11 c11 hD.out HB11.out HO11.out).mono ?_); rintro e w12 ⟨rfl, hD12, hb12⟩; have HD12 := Lib.hid hD12; have HB12 := Lib.hid ((hB.out.trans (HB11.out.mono hB.out.size)).trans hb12); clear hD12 hb12)
          | (go_at_call 22; (with_reducible refine (HAl.out w12 HD12.out).mono ?_); rintro e w13 ⟨A13, c13, rfl, _, hD13, hb13⟩; have HD13 := Lib.hid hD13; have HB13 := Lib.hid (HB12.out.trans hb13); clear hD13 hb13)
          | (go_at_call 25; (with_reducible refine (HO9.out w13 HD13.out).mono ?_); rintro e w7 ⟨rfl, rfl⟩)
          | (go_at_call 15; (with_reducible refine (HW9.out w13 HD13.out _).mono ?_); rintro e w14 ⟨rfl, _, hb14⟩; have HB14 := Lib.hid ((HB13.out.alloc HB13.out.size _).trans hb14); clear hb14))
        go_ret
        exact ⟨rfl, HB14.out⟩

theorem walk (a0 a1 : Int) (w : World) (w0 : (Lit.int .i64 a0).wf = true) (w1 : (Lit.int .i64 a1).wf = true) :
    Calls Try.prog 6 #[.int .i64 a0, .int .i64 a1] w fun e w' => e = .returned (.bool true) ∧ Below w.heap.size w w' := by
  obtain ⟨N, hN, hN2⟩ := below_nat a0 20 (by decide)
  obtain ⟨C, hC, hC2⟩ := below_nat a1 30 (by decide)
  exact walk_in N C a0 a1 w hN.out (by omega) hC.out (by omega)
end Go.Proofs.Ytpgkimohekdmmaa.SimfsFusesW
