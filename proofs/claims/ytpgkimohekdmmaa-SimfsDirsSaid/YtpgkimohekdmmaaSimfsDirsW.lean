/-
  The walk of SimfsDirs: at any numbers the law returns true, and nothing that was there is written.
-/
import Derived.Test.YtpgkimohekdmmaaDh
import Derived.Test.YtpgkimohekdmmaaNumb
namespace Go.Proofs.Ytpgkimohekdmmaa.SimfsDirsW
open Go.ChangeShapes Go.WideShapes Go.ChangeAt Go.RowKit
open Bytes8 Blk8 Own8 OwnA OwnM OwnE Fa Fo Ta Ua Kf Dm Dp Dh Dl Dx Pv8 Numb Go.Maps
set_option linter.unusedVariables false
set_option linter.unusedSimpArgs false
set_option maxRecDepth 100000

def L20 : List Int := [97, 98, 99, 100, 101, 102, 103, 104, 105, 106, 107, 108, 109, 110, 111, 112, 113, 114, 115, 116]
def nm (k : Nat) : List Int := [102, 97 + (k : Int)]
theorem nm_ok {k : Nat} (h : k < 20) : nmOk (nm k) = true ∧ AllB (nm k) := by
  have e : nmOk (nm k) = true := by
    unfold nmOk nm
    simp
    omega
  exact ⟨e, (nmOk_all e).1⟩
theorem nm_inj {j k : Nat} (h : nm j = nm k) : j = k := by
  unfold nm at h
  simp at h
  omega
def S20 : ByteArray := { data := #[97, 98, 99, 100, 101, 102, 103, 104, 105, 106, 107, 108, 109, 110, 111, 112, 113, 114, 115, 116] }
theorem S20_eq : S20 = T L20 := by decide
theorem cut20 : ∀ k, k < 20 → (L20.drop k).take (k + 1 - k) = [97 + (k : Int)] := by decide
theorem text_nm {k : Nat} (h : k < 20) : ({ data := #[102] } : ByteArray) ++ S20.extract k (k + 1) = T (nm k) := by
  rw [S20_eq, T_cut, cut20 k h, show ({ data := #[102] } : ByteArray) = T [102] by decide, T_app]
  rfl
theorem slice_nm {k : Nat} (h : k < 20) (w : World) : (Instr.slice 9 (.string { data := #[97, 98, 99, 100, 101, 102, 103, 104, 105, 106, 107, 108, 109, 110, 111, 112, 113, 114, 115, 116] }) (some (.int .i64 (k : Int))) (some (.int .i64 ((k : Int) + 1))) none).run Try.prog w = .ok (.string (T [97 + (k : Int)])) w := by
  have hs : (S20.size : Int) = 20 := by decide
  have := run_slice_string (P := Try.prog) w 9 S20 .i64 .i64 (k : Int) ((k : Int) + 1) Try.underlying9 (by omega) (by omega) (by omega)
  rw [show ((k : Int)).toNat = k by omega, show ((k : Int) + 1).toNat = k + 1 by omega, S20_eq, T_cut, cut20 k h] at this
  rw [← S20_eq] at this
  exact this
theorem cat_nm (k : Nat) : ({ data := #[102] } : ByteArray) ++ T [97 + (k : Int)] = T (nm k) := by
  rw [show ({ data := #[102] } : ByteArray) = T [102] by decide, T_app]; rfl
/-- Where the law stands ahead of round i. -/
structure At (d : Dir) (i s : Nat) : Prop where
  made : Made d i s
  num : d.made = i
  free : ∀ j, i ≤ j → at_ d.row (nm j) = none
theorem at_new : At (Dir.new 4096) 0 0 := ⟨made_new _, rfl, fun j _ => rfl⟩
theorem at_make {d : Dir} {i s : Nat} (h : At d i s) (hi : i < 20) : (d.make (nm i)).1 = 0 ∧ At (d.make (nm i)).2 (i + 1) s := by
  obtain ⟨h1, h2, h3⟩ := made_make h.made (by omega) (nm_ok hi).1 (h.free i (Nat.le_refl _))
  refine ⟨h1, h2, ?_, fun j hj => ?_⟩
  · rw [make_fresh h.made.on h.made.fuse (by have := h.made.row; omega) (nm_ok hi).1 (h.free i (Nat.le_refl _))]
    show d.made + 1 = _
    rw [h.num]
  · rw [h3, if_neg (fun e => by have := nm_inj e; omega)]
    exact h.free j (by omega)
theorem at_sync {d : Dir} {i s : Nat} (h : At d i s) : d.syncDir.1 = 0 ∧ At d.syncDir.2 i i := by
  obtain ⟨h1, h2, h3, h4⟩ := made_sync h.made
  refine ⟨h1, h2, ?_, fun j hj => by rw [h3]; exact h.free j hj⟩
  unfold Dir.syncDir
  rw [h.made.on, if_neg (by simp), fine_on h.made.fuse]
  exact h.num

set_option maxHeartbeats 4000000 in
theorem walk_in (a1 : Int) (N Sy : Nat) (a0 a2 : Int) (Q : Nat) (w : World) (hN : numBelow a0 20 = N) (hN2 : N < 20) (hS : numBelow a2 ((N : Int) + 1) = Sy) (hS2 : Sy ≤ N) (hQ : numBelow a1 24 = Q) (hQ2 : Q < 24) :
    Calls Try.prog 5 #[.int .i64 a0, .int .i64 a1, .int .i64 a2] w fun e w' => e = .returned (.bool true) ∧ Below w.heap.size w w' := by
  have HN := Lib.hid hN
  have HS := Lib.hid hS
  have HQ := Lib.hid hQ
  have e46 : ((4096 : Nat) : Int) = 4096 := rfl
  have HNw := Lib.hid fun w1 (h : w.heap.size ≤ w1.heap.size) => new_b w1 w.heap.size h 4096 (by omega) (by omega)
  rw [e46] at HNw
  clear e46 hN hS hQ
  go_enter Try.func5, Try.ntmps5
  go_wp2_with (first
    | (go_at_call 8; (with_reducible refine (first_any _).mono ?_); rintro e w1 ⟨rfl, hb1⟩; have HB1 := Lib.hid hb1; clear hb1)
    | (go_at_call 9; (with_reducible refine (HNw.out w1 HB1.out.size).mono ?_); rintro e w2 ⟨g, rfl, hD2, hb2⟩; have HD2 := Lib.hid hD2; have HB2 := Lib.hid (HB1.out.trans hb2); clear hD2 hb2)
    | (go_at_call 11; (with_reducible refine (number_nat a0 20 N _ (by decide) (by decide) HN.out).mono ?_); rintro e w' ⟨rfl, rfl⟩)
    | (go_at_call 11; (with_reducible refine (number_nat a2 ((N : Int) + 1) Sy _ (by omega) (by omega) HS.out).mono ?_); rintro e w' ⟨rfl, rfl⟩))
  go_loopw [10] (fun i wr => ∃ (k : Nat) (d : Dir), k ≤ N ∧ i = .int .i64 (k : Int) ∧ Hid (At d k (if k ≤ Sy then 0 else Sy)) ∧ Hid (DirB w.heap.size wr g d) ∧ Hid (Below w.heap.size w wr)) (fun i _ => N - (RowKit.intOf i).toNat)
  case atStart => exact ⟨0, _, by omega, rfl, Lib.hid (by rw [if_pos (Nat.zero_le _)]; exact at_new), HD2, HB2⟩
  case round =>
    obtain ⟨k, d, hk, rfl, hat, hD, hB⟩ := hrel
    rcases Nat.lt_or_ge k N with hlt | hge
    · have hin : (k : Int) < (N : Int) := by omega
      have hk19 : k ≤ 19 := by omega
      have hsl := slice_nm (k := k) (by omega)
      have hcat := cat_nm k
      obtain ⟨hnk, hnA⟩ := nm_ok (k := k) (by omega)
      have HNA := Lib.hid hnA
      clear hnA hnk
      have next : ∀ (d1 : Dir) (w3 : World) (s : Nat), At d1 k s → DirB w.heap.size w3 g d1 → Hid (Calls Try.prog 12 #[.pointer (some ⟨g, 0, none⟩), .string (T (nm k))] w3 fun e w' => e = .returned (.int .i64 0) ∧ DirB w.heap.size w' g (d1.make (nm k)).2 ∧ Below w.heap.size w3 w') := fun d1 w3 s ha hd => by
        have := make_b w3 w.heap.size g d1 hd (nm k) HNA.out (by simp [nm]) (by have := ha.num; omega) (by have := ha.made.past; omega)
        rw [(at_make ha (by omega)).1] at this
        exact Lib.hid this
      by_cases hks : k = Sy
      · have hq : ((k : Int) == (Sy : Int)) = true := by rw [hks]; simp
        have HKs := Lib.hid hks
        have hat2 := hat.out
        rw [if_pos (by omega)] at hat2
        have HAt := Lib.hid hat2
        have hsy := syncDir_b wr w.heap.size g d hD.out
        rw [(at_sync hat2).1] at hsy
        have HSy := Lib.hid hsy
        clear hks hat2 hsy
        go_wp2_with (first
          | (go_at_call 17; (with_reducible refine HSy.out.mono ?_); rintro e w3 ⟨rfl, hD3, hb3⟩; have HD3 := Lib.hid hD3; have HB3 := Lib.hid (hB.out.trans hb3); have HMk := next _ w3 _ (at_sync HAt.out).2 hD3; clear hD3 hb3)
          | (go_at_call 12; (with_reducible refine HMk.out.mono ?_); rintro e w4 ⟨rfl, hD4, hb4⟩))
        go_roundw
        case rel =>
          refine ⟨k + 1, _, by omega, by go_num, Lib.hid ?_, Lib.hid hD4, Lib.hid (HB3.out.trans hb4)⟩
          have := (at_make (at_sync HAt.out).2 (by omega)).2
          have hks := HKs.out
          rw [if_neg (by omega), ← hks]
          exact this
        case measure => simp [RowKit.intOf]; omega
      · have hq : ((k : Int) == (Sy : Int)) = false := beq_eq_false_iff_ne.2 (by omega)
        have HKs := Lib.hid hks
        have HMk := next _ wr _ hat.out hD.out
        clear hks
        go_wp2_with (go_at_call 12; (with_reducible refine HMk.out.mono ?_); rintro e w4 ⟨rfl, hD4, hb4⟩)
        go_roundw
        case rel =>
          refine ⟨k + 1, _, by omega, by go_num, Lib.hid ?_, Lib.hid hD4, Lib.hid (hB.out.trans hb4)⟩
          have := (at_make hat.out (by omega)).2
          have hks := HKs.out
          by_cases h1 : k ≤ Sy
          · rw [if_pos h1] at this
            rw [if_pos (by omega)]
            exact this
          · rw [if_neg h1] at this
            rw [if_neg (by omega)]
            exact this
        case measure => simp [RowKit.intOf]; omega
    · obtain rfl : k = N := by omega
      have hin : ¬ ((k : Int) < (k : Int)) := by omega
      obtain ⟨mx, hmx⟩ : ∃ mx : Int, max ((Q : Int) - 2) 0 = mx := ⟨_, rfl⟩
      have last : ∀ (d1 : Dir) (w3 : World), At d1 k Sy → DirB w.heap.size w3 g d1 → Hid (Calls Try.prog 20 #[.pointer (some ⟨g, 0, none⟩), .slice none 0 0, .int .i64 ((Q : Int) - 2)] w3 fun e w' => e = .returned (.tuple #[]) ∧ DirB w.heap.size w' g (d1.crash 0 (fun _ => false) ((Q : Int) - 2)) ∧ Below w.heap.size w3 w') := fun d1 w3 ha hd => Lib.hid (crash_nil w3 w.heap.size g d1 hd _ (by omega) (by omega))
      have lens : ∀ (d1 : Dir), At d1 k Sy → (d1.crash 0 (fun _ => false) ((Q : Int) - 2)).names.length = min k (Sy + (max ((Q : Int) - 2) 0).toNat) := fun d1 ha => made_crash ha.made _ _ _
      have LENS := Lib.hid lens
      clear lens
      by_cases hks : Sy = k
      · have hq : ((Sy : Int) == (k : Int)) = true := by rw [hks]; simp
        have HKs := Lib.hid hks
        have hat2 := hat.out
        rw [if_pos (by omega)] at hat2
        have HAt := Lib.hid hat2
        have hsy := syncDir_b wr w.heap.size g d hD.out
        rw [(at_sync hat2).1] at hsy
        have HSy := Lib.hid hsy
        have HA2 := Lib.hid (show At d.syncDir.2 k Sy by have := (at_sync hat2).2; rw [hks]; exact this)
        clear hks hat2 hsy
        go_wp2_with (first
          | (go_at_call 17; (with_reducible refine HSy.out.mono ?_); rintro e w3 ⟨rfl, hD3, hb3⟩; have HD3 := Lib.hid hD3; have HB3 := Lib.hid (hB.out.trans hb3); have HCr := last _ w3 HA2.out hD3; clear hD3 hb3)
          | (go_at_call 11; (with_reducible refine (number_nat a1 24 Q _ (by decide) (by decide) HQ.out).mono ?_); rintro e w' ⟨rfl, rfl⟩)
          | (go_at_call 20; (with_reducible refine HCr.out.mono ?_); rintro e w5 ⟨rfl, hD5, hb5⟩; have HNm := Lib.hid (names_b w5 w.heap.size g _ hD5); have HB5 := Lib.hid (HB3.out.trans hb5); clear hD5 hb5)
          | (go_at_call 14; (with_reducible refine HNm.out.mono ?_); rintro e w6 ⟨A6, c6, rfl, _, hD6, hb6⟩; rw [LENS.out _ HA2.out]))
        go_ret
        exact ⟨ret_bool (beq_iff_eq.2 (by omega)), HB5.out.trans hb6⟩
      · have hq : ((Sy : Int) == (k : Int)) = false := beq_eq_false_iff_ne.2 (by omega)
        have hat2 := hat.out
        rw [if_neg (by omega)] at hat2
        have HA2 := Lib.hid hat2
        have HCr := last _ wr hat2 hD.out
        clear hks hat2
        go_wp2_with (first
          | (go_at_call 11; (with_reducible refine (number_nat a1 24 Q _ (by decide) (by decide) HQ.out).mono ?_); rintro e w' ⟨rfl, rfl⟩)
          | (go_at_call 20; (with_reducible refine HCr.out.mono ?_); rintro e w5 ⟨rfl, hD5, hb5⟩; have HNm := Lib.hid (names_b w5 w.heap.size g _ hD5); have HB5 := Lib.hid (hB.out.trans hb5); clear hD5 hb5)
          | (go_at_call 14; (with_reducible refine HNm.out.mono ?_); rintro e w6 ⟨A6, c6, rfl, _, hD6, hb6⟩; rw [LENS.out _ HA2.out]))
        go_ret
        exact ⟨ret_bool (beq_iff_eq.2 (by omega)), HB5.out.trans hb6⟩

theorem walk (a0 a1 a2 : Int) (w : World) (w0 : (Lit.int .i64 a0).wf = true) (w1 : (Lit.int .i64 a1).wf = true) (w2 : (Lit.int .i64 a2).wf = true) :
    Calls Try.prog 5 #[.int .i64 a0, .int .i64 a1, .int .i64 a2] w fun e w' => e = .returned (.bool true) ∧ Below w.heap.size w w' := by
  obtain ⟨N, hN, hN2⟩ := below_nat a0 20 (by decide)
  obtain ⟨Sy, hS, hS2⟩ := below_nat a2 ((N : Int) + 1) (by omega)
  obtain ⟨Q, hQ, hQ2⟩ := below_nat a1 24 (by decide)
  exact walk_in a1 N Sy a0 a2 Q w hN.out (by omega) hS.out (by omega) hQ.out (by omega)
end Go.Proofs.Ytpgkimohekdmmaa.SimfsDirsW
