/-
  The walk of SectGaps: at any numbers and any bytes the law returns true, and nothing that was there is written.
-/
import Derived.Test.YtknkdppaalmknaaSfg
namespace Go.Proofs.Ytknkdppaalmknaa.SectGapsW
open Go.ChangeShapes Go.WideShapes Go.ChangeAt Go.RowKit
open Bytes8 Blk8 Own8 OwnM OwnA OwnE Kf Ta Fa Sfa Sfb Sfc Sfd Sfe Sfg Rows2 Do8 Numb
set_option linter.unusedVariables false
set_option linter.unusedSimpArgs false

theorem wr_front (b : List Int) (p i : Nat) (h : i < p) (hb : 0 < b.length) : (wr [] p b).getD i 0 = 0 := by
  rw [wr_getD hb, if_neg (by omega)]; rfl
theorem wr_back (b : List Int) (p : Nat) (hb : 0 < b.length) : (wr [] p b).drop p = b := by
  have hl := wr_length (now := []) (p := p) hb
  refine ext0 (by simp [hl]) fun i hi => ?_
  rw [getD_drop, wr_getD hb]
  have : i < b.length := by simp [hl] at hi; omega
  rw [if_pos (by omega)]
  congr 1
  omega

set_option maxRecDepth 100000 in
set_option maxHeartbeats 1000000 in
theorem walk_long (a0 a1 : Int) (a : Option Addr) (len cap : Nat) (w : World) (h : 1000 < len ∨ len = 0) (hl : len ≤ 9223372036854775807) :
    Calls Try.prog 6 #[.int .i64 a0, .int .i64 a1, .slice a len cap] w fun e w' => e = .returned (.bool true) ∧ Below w.heap.size w w' := by
  rcases h with h | h
  · have hd : (1000 : Int) < (len : Int) := by omega
    go_enter Try.func6, Try.ntmps6
    go_wp2_with (go_at_call 7; (with_reducible refine (first_any _).mono ?_); rintro e w1 ⟨rfl, hbel⟩)
    go_ret
    exact ⟨rfl, hbel⟩
  · subst h
    go_enter Try.func6, Try.ntmps6
    go_wp2_with (go_at_call 7; (with_reducible refine (first_any _).mono ?_); rintro e w1 ⟨rfl, hbel⟩)
    go_ret
    exact ⟨rfl, hbel⟩

set_option maxRecDepth 100000 in
set_option maxHeartbeats 2000000 in
theorem walk_in (a0 a1 : Int) (a : Option Addr) (len cap p t : Nat) (l : List Int) (w : World) (hb : Bytes w a l) (hL : l.length = len) (hcap : len ≤ cap) (hcap2 : cap ≤ maxLen) (h1 : len ≤ 1000) (h0 : 0 < len) (hp : numBelow a0 4000 = p) (hp2 : p < 4000) (ht : numBelow a1 50 = t) (ht2 : t < 50) :
    Calls Try.prog 6 #[.int .i64 a0, .int .i64 a1, .slice a len cap] w fun e w' => e = .returned (.bool true) ∧ Below w.heap.size w w' := by
  have HJ := Lib.hid hp
  have HT := Lib.hid ht
  have HL := Lib.hid hL
  have HB := Lib.hid fun (W : World) (hW : Below w.heap.size w W) => hb.below hW (Nat.le_refl _)
  have Hlow := Lib.hid fun (k off : Nat) (e : a = some ⟨k, off, none⟩) (hl : 0 < l.length) => (show k < w.heap.size by
    obtain ⟨b', off', e', hlt, _⟩ := hb.2 0 hl
    rw [e] at e'; simp at e'; obtain ⟨rfl, rfl⟩ := e'; exact hlt)
  have HXl := Lib.hid (show (wr [] p l).length = p + len by rw [wr_length (by omega), hL]; simp)
  have HF := Lib.hid fun i (hi : i < p) => wr_front l p i hi (by omega)
  have HBk := Lib.hid (wr_back l p (by omega))
  have e0 : wcE (p : Int) len = 0 := by unfold wcE; rw [if_neg (by omega), if_neg (by omega)]
  have HX := Lib.hid (show wcL [] (p : Int) l = wr [] p l by unfold wcL; rw [hL, e0, if_pos rfl]; rfl)
  obtain ⟨P2, hP2⟩ : ∃ P2 : Int, P2 = 32768 - (len : Int) + 1 + (t : Int) := ⟨_, rfl⟩
  obtain ⟨P3, hP3⟩ : ∃ P3 : Int, P3 = -1 - (t : Int) := ⟨_, rfl⟩
  have e2 : wcE P2 len = 15 := by unfold wcE; rw [if_neg (by omega), if_pos (by omega)]
  have e3 : wcE P3 len = 1 := by unfold wcE; rw [if_pos (by omega)]
  have HX2 := Lib.hid (show wcL (wr [] p l) P2 l = wr [] p l by unfold wcL; rw [hL, e2]; rfl)
  have HX3 := Lib.hid (show wcL (wr [] p l) P3 l = wr [] p l by unfold wcL; rw [hL, e3]; rfl)
  have hP2b : -9223372036854775808 ≤ P2 ∧ P2 ≤ 9223372036854775807 := by omega
  have hP3b : -9223372036854775808 ≤ P3 ∧ P3 ≤ 9223372036854775807 := by omega
  clear hb hL hp ht
  generalize wr [] p l = X at *
  obtain ⟨q, hq⟩ : ∃ q, q = p + len := ⟨_, rfl⟩
  rw [← hq] at HXl
  have eq1 : (p : Int) + (len : Int) = (q : Int) := by omega
  have hpq : p < q := by omega
  have hqb : q ≤ 5000 := by omega
  have hqp : q - p = len := by omega
  have hP2' : 32768 - (len : Int) + 1 + (t : Int) = P2 := hP2.symm
  have hP3' : -1 - (t : Int) = P3 := hP3.symm
  have hd1 : decide ((1000 : Int) < (len : Int)) = false := by simp; omega
  have hd2 : ((len : Int) == 0) = false := by simp; omega
  clear hP2 hP3 hq
  go_enter Try.func6, Try.ntmps6
  go_wp2_with (first
    | (go_at_call 7; (with_reducible refine (first_any _).mono ?_); rintro e w1 ⟨rfl, hb1⟩)
    | (go_at_call 8; (with_reducible refine (new_b w1 w.heap.size hb1.size).mono ?_); rintro e w2 ⟨rfl, hP, hb2⟩; have HP := Lib.hid hP; have Hb2 := Lib.hid (hb1.trans hb2); clear hP)
    | (go_at_call 26; (with_reducible refine (number_nat a0 4000 p _ (by decide) (by decide) HJ.out).mono ?_); rintro e w' ⟨rfl, rfl⟩)
    | (go_at_call 9; (with_reducible refine (write_b w2 w.heap.size _ [] [] (p : Int) a len cap l HP.out (HB.out _ Hb2.out) HL.out (by omega) Hlow.out (by omega) (by omega)).mono ?_); rintro e w3 ⟨rfl, hP3, hb3⟩; rw [HX.out] at hP3; rw [e0]; have HP3 := Lib.hid hP3; have Hb3 := Lib.hid (Hb2.out.trans hb3); clear hP3)
    | (go_at_call 20; (with_reducible refine (len_b w3 _ _ _ _ HP3.out).mono ?_); rintro e w' ⟨rfl, rfl⟩; rw [HXl.out])
    | (go_at_call 21; (with_reducible refine (all_b w3 _ _ _ _ HP3.out).mono ?_); rintro e w4 ⟨A4, c4, rfl, ho4, hb4⟩; rw [HXl.out] at ho4 ⊢; have HO4 := Lib.hid ho4; have HP4 := Lib.hid (HP3.out.below hb4); have hs4 := Hb3.out.size; have Hb4 := Lib.hid (Hb3.out.trans (hb4.mono hs4)); clear ho4 hs4))
  obtain ⟨g4, rfl⟩ : ∃ g4, A4 = some ⟨g4, 0, none⟩ := by
    rcases HO4.out.2.2.2.2 with ⟨he, h0⟩ | ⟨g, _, _, he, _⟩
    · omega
    · injection he with e1 e2 e3
      exact ⟨g, e1⟩
  go_loop [10] (fun i => ∃ k : Nat, k ≤ p ∧ i = .int .i64 (k : Int)) (fun i => p - (intOf i).toNat)
  case atStart => exact ⟨0, Nat.zero_le _, rfl⟩
  case round =>
    obtain ⟨k, hk, rfl⟩ := hrel
    rcases Nat.lt_or_ge k p with hlt | hge
    · have hc := (HO4.out.bytes.spot (by rw [HXl.out]; omega))
      obtain ⟨b, off, eA, _, hc⟩ := hc
      simp at eA
      obtain ⟨rfl, rfl⟩ := eA
      have hck := hc k (by rw [HXl.out]; omega)
      rw [HF.out k hlt, Nat.zero_add] at hck
      clear hc
      have hin : (k : Int) < (p : Int) := by omega
      have hkq : k < q := by omega
      go_wp2
      go_round
      case rel => exact ⟨k + 1, by omega, by go_num⟩
      case measure => simp [intOf]; omega
    · obtain rfl : k = p := by omega
      obtain ⟨hB3, F, hPF, hlF⟩ := HP3.out
      have hg4 : w3.heap.size ≤ g4 ∧ g4 < w4.heap.size := Kf.Own.block HO4.out rfl
      have hng : ¬ F g4 := fun hf => by have := hPF.foot g4 hf; omega
      have HPF := Lib.hid (hPF.below hb4)
      have hs4 := Hb4.out.size
      have HlF := Lib.hid hlF
      have HlF2 := Lib.hid fun W => Ext.low (w' := W) hs4 hlF
      have Hoff := Lib.hid fun (G : Nat → Prop) (hG : ∀ k, G k → w.heap.size ≤ k) => (show LiesOff a l G from fun b off e h0 hf => by
        have := Hlow.out b off e h0
        have := hG b hf
        omega)
      have hcut := cut_l (some ⟨g4, 0, none⟩) q c4 k (by omega)
      rw [hqp] at hcut
      have HO4b := Lib.hid (show Own w4 0 (some ⟨g4, 0, none⟩) q c4 X from Own.lower HO4.out (Nat.zero_le _))
      clear hPF hlF HP3 HP4 hB3
      go_wp2_with (first
        | (go_at_call 26; (with_reducible refine (number_nat a1 50 t _ (by decide) (by decide) HT.out).mono ?_); rintro e w' ⟨rfl, rfl⟩)
        | (go_at_call 9; (with_reducible refine (write_any w4 F _ X [] P2 a len cap l HPF.out (HB.out _ Hb4.out) HL.out (by omega) (Hoff.out F HlF.out) hP2b.1 hP2b.2).mono ?_); rintro e w5 ⟨rfl, hP5, hK5⟩; rw [HX2.out] at hP5; rw [e2]; have HP5 := Lib.hid hP5; have HO5 := Lib.hid (Kf.Own.keptF HO4b.out hK5 (fun g hg hf => hng (by have e : g4 = g := Option.some.inj hg; rw [e]; exact hf))); have Hb5 := Lib.hid (below_then Hb4.out hK5 hs4 HlF.out); clear hP5)
        | (go_at_call 9; (with_reducible refine (write_any w5 (Ext F w4 w5) _ X [] P3 a len cap l HP5.out (HB.out _ Hb5.out) HL.out (by omega) (Hoff.out _ (HlF2.out w5)) hP3b.1 hP3b.2).mono ?_); rintro e w6 ⟨rfl, hP6, hK6⟩; rw [HX3.out] at hP6; rw [e3]; have HP6 := Lib.hid hP6; have HO6 := Lib.hid (Kf.Own.keptF HO5.out hK6 (fun g hg hf => by
            have e : g4 = g := Option.some.inj hg
            subst e
            rcases hf with hf | hf
            · exact hng hf
            · have := hg4.2
              have := hf.1
              omega)); have Hb6 := Lib.hid (below_then Hb5.out hK6 Hb5.out.size (HlF2.out w5)); clear hP6)
        | (go_at_call 21; (with_reducible refine (all_any w6 _ _ _ _ HP6.out).mono ?_); rintro e w7 ⟨A7, c7, rfl, ho7, hb7⟩; rw [HXl.out] at ho7 ⊢; have HO7 := Lib.hid ho7; have HO8 := Lib.hid (Own8.Own.kept HO6.out hb7 (Nat.le_refl _)); have hs6 := Hb6.out.size; have Hb7 := Lib.hid (Hb6.out.trans (hb7.mono hs6)); clear ho7)
        | (go_at_call 19; (with_reducible refine (same_self A7 (some ⟨g4, 0, none⟩) X q c7 q c4 w7 HO7.out.bytes HO8.out.bytes HXl.out HXl.out).mono ?_); rintro e w' ⟨rfl, rfl⟩)
        | (go_at_call 19; (with_reducible refine (same_self (cutA (some ⟨g4, 0, none⟩) c4 k) a l len (c4 - k) len cap w7 (by
            have h := Bytes.cut HO8.out.bytes c4 k len (by have := own_cap HO8.out; have := HXl.out; omega)
            rw [HBk.out, List.take_of_length_le (by rw [HL.out]; exact Nat.le_refl _)] at h
            exact h) (HB.out _ Hb7.out) HL.out HL.out).mono ?_); rintro e w' ⟨rfl, rfl⟩))
      go_ret
      exact ⟨rfl, Hb7.out⟩

theorem walk (a0 : Int) (a1 : Int) (a2 : Option Addr) (len2 cap2 : Nat) (z2 : List Int) (w : World) (w0 : (Lit.int .i64 a0).wf = true) (w1 : (Lit.int .i64 a1).wf = true) (w2 : IsRow .u8 w a2 len2 cap2 z2) :
    Calls Try.prog 6 #[.int .i64 a0, .int .i64 a1, .slice a2 len2 cap2] w fun e w' => e = .returned (.bool true) ∧ Below w.heap.size w w' := by
  obtain ⟨hb, hL, hcap, hmax, _⟩ := w2.bytes
  generalize z2.take len2 = l at hb hL
  by_cases h : 1000 < len2 ∨ len2 = 0
  · exact walk_long a0 a1 a2 len2 cap2 w h (by unfold maxLen at hmax; omega)
  · obtain ⟨p, hp, hp2⟩ := below_nat a0 4000 (by decide)
    obtain ⟨t, ht, ht2⟩ := below_nat a1 50 (by decide)
    exact walk_in a0 a1 a2 len2 cap2 p t l w hb hL hcap hmax (by omega) (by omega) hp.out (by omega) ht.out (by omega)
end Go.Proofs.Ytknkdppaalmknaa.SectGapsW
