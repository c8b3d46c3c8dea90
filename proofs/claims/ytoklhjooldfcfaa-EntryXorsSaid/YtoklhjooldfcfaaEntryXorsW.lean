/-
  The walk of EntryXors: at any payloads the law returns true, and nothing that was there is written.
-/
import Derived.Test.YtoklhjooldfcfaaYb
namespace Go.Proofs.Ytoklhjooldfcfaa.EntryXorsW
open Go.ChangeShapes Go.WideShapes Go.ChangeAt Go.RowKit
open Bytes8 Blk8 Own8 OwnM OwnE OwnA LeNum Hm Ha Hb Hc Hd He Hf Se Rows2 Dc Ff Ya Yb
set_option linter.unusedVariables false
set_option linter.unusedSimpArgs false
set_option maxRecDepth 100000

theorem rows_back (P : Nat → List Int) (n : Nat) : rowsL (fun r => P (n - 1 - r)) n = (rowsL P n).reverse := by
  unfold rowsL
  apply List.ext_getElem
  · simp
  · intro i h1 h2
    simp at h1
    simp [List.getElem_reverse]
theorem xr_twice (Q : Nat → List Int) (k : Nat) : xr (rowsL (fun r => Q (r / 2)) (2 * k)) = 0 := by
  induction k with
  | zero => rfl
  | succ k ih =>
    rw [show 2 * (k + 1) = 2 * k + 1 + 1 by omega, rowsL_succ, rowsL_succ, xr_snoc, xr_snoc, ih, show 2 * k / 2 = k by omega, show (2 * k + 1) / 2 = k by omega, Nat.zero_xor, Nat.xor_self]
theorem xr_more (P : Nat → List Int) (p : List Int) (n : Nat) : xr (rowsL (fun r => if r < n then P (n - 1 - r) else p) (n + 1)) = xr (rowsL P n) ^^^ lookN p := by
  rw [rowsL_succ, xr_snoc, if_neg (by omega)]
  congr 1
  rw [← xr_rev (rowsL P n), ← rows_back]
  congr 1
  unfold rowsL
  apply List.map_congr_left
  intro r hr
  rw [List.mem_range] at hr
  rw [if_pos hr]

abbrev rowV (A : Nat → Option Addr) (L C : Nat → Nat) (r : Nat) : Value := .slice (A r) (L r) (C r)
def vals (v : Nat → Value) (k : Nat) : List Value := (List.range k).map v
theorem vals_succ (v : Nat → Value) (k : Nat) : vals v (k + 1) = vals v k ++ [v k] := by simp [vals, List.range_succ]
theorem vals_at (v : Nat → Value) (k r : Nat) (h : r < k) : (vals v k)[r]? = some (v r) := by simp [vals, h]
theorem vals_two (v : Nat → Value) (k : Nat) : vals (fun r => v (r / 2)) (2 * (k + 1)) = vals (fun r => v (r / 2)) (2 * k) ++ [v k, v k] := by
  rw [show 2 * (k + 1) = 2 * k + 1 + 1 by omega, vals_succ, vals_succ, show 2 * k / 2 = k by omega, show (2 * k + 1) / 2 = k by omega, List.append_assoc]; rfl

theorem rows_more {w : World} {base n c : Nat} {B : Option Addr} {A : Nat → Option Addr} {L C : Nat → Nat} {P : Nat → List Int} {a1 : Option Addr} {m c1 : Nat} {p : List Int} (h : OwnE 22 1 w base B (n + 1) c (vals (fun r => rowV A L C (n - 1 - r)) n ++ [.slice a1 m c1]))
    (hb : ∀ r, r < n → Bytes w (A r) (P r) ∧ (P r).length = L r ∧ L r ≤ C r ∧ C r ≤ maxLen) (hp : Bytes w a1 p ∧ p.length = m ∧ m ≤ c1 ∧ c1 ≤ maxLen) :
    InRows w B (n + 1) (fun r => if r < n then A (n - 1 - r) else a1) (fun r => if r < n then L (n - 1 - r) else m) (fun r => if r < n then C (n - 1 - r) else c1) (fun r => if r < n then P (n - 1 - r) else p) := by
  refine rows_own h _ _ _ _ (fun r hr => ?_) (fun r hr => ?_)
  · by_cases h1 : r < n
    · rw [List.getElem?_append_left (by simpa [vals] using h1), vals_at _ _ _ h1]
      simp only [h1, if_true]
    · obtain rfl : r = n := by omega
      rw [List.getElem?_append_right (by simp [vals])]
      simp [vals]
  · by_cases h1 : r < n
    · simp only [h1, if_true]
      exact hb _ (by omega)
    · simp only [h1, if_false]
      exact hp

set_option maxHeartbeats 4000000 in
theorem walk_main (a0 : Option Addr) (n cap0 : Nat) (A : Nat → Option Addr) (L C : Nat → Nat) (P : Nat → List Int) (a1 : Option Addr) (m cap1 : Nat) (p : List Int) (w : World) (hR : InRows w a0 n A L C P) (hn : n ≤ 20) (hp : Bytes w a1 p) (hm : p.length = m) (hm2 : m ≤ 200) (hc1 : m ≤ cap1) (hc2 : cap1 ≤ maxLen) :
    Calls Try.prog 7 #[.slice a0 n cap0, .slice a1 m cap1] w fun e w' => e = .returned (.bool true) ∧ Below w.heap.size w w' := by
  have HR := Lib.hid hR
  have HP := Lib.hid hp
  have HM := Lib.hid hm
  have HC1 := Lib.hid (And.intro hc1 hc2)
  have d1 : ¬ (20 : Int) < (n : Int) := by omega
  have d2 : ¬ (200 : Int) < (m : Int) := by omega
  clear hR hp hm hc1 hc2
  go_enter Try.func7, Try.ntmps7
  go_wp2_with (go_at_call 8; (with_reducible refine (first_any _).mono ?_); rintro e w1 ⟨rfl, hb1⟩; have HB1 := Lib.hid hb1; clear hb1)
  go_loopw [6, 7, 8] (fun s t i wr => ∃ (k j : Nat) (A6 A7 : Option Addr) (c6 c7 : Nat), k + j = n ∧ i = .int .i64 ((j : Int) - 1) ∧ s = .slice A6 k c6 ∧ t = .slice A7 (2 * k) c7
      ∧ Hid (OwnE 22 1 wr w1.heap.size A6 k c6 (vals (fun r => rowV A L C (n - 1 - r)) k)) ∧ Hid (OwnE 22 1 wr w1.heap.size A7 (2 * k) c7 (vals (fun r => rowV A L C (n - 1 - r / 2)) (2 * k)))
      ∧ Hid (Apart A6 A7) ∧ Hid (∀ r, r < k → L (n - 1 - r) ≤ 200) ∧ Hid (Below w1.heap.size w1 wr)) (fun _ _ i _ => (intOf i + 1).toNat)
  case atStart => exact ⟨0, n, none, none, 0, 0, by omega, rfl, rfl, rfl, OwnE.nil _ _ (Nat.le_refl _), OwnE.nil _ _ (Nat.le_refl _), Apart.none _, fun r hr => absurd hr (by omega), Below.refl _ _⟩
  case round =>
    obtain ⟨k, j, A6, A7, c6, c7, hkj, rfl, rfl, rfl, h6, h7, hap, hL, hbel⟩ := hrel
    rcases Nat.eq_zero_or_pos j with hj | hj
    · subst hj
      obtain rfl : k = n := by omega
      have B1 := Lib.hid (HB1.out.trans (hbel.out.mono HB1.out.size))
      have e0 : (((0 : Nat) : Int) - 1) = -1 := rfl
      rw [e0]
      have hrow : ∀ W, Below w.heap.size w W → ∀ r, r < k → Bytes W (A r) (P r) ∧ (P r).length = L r ∧ L r ≤ C r ∧ C r ≤ maxLen := fun W hW r hr => by
        obtain ⟨b, off, _, _, _, h⟩ := (HR.out.below hW) r hr
        exact h
      have hLr : ∀ r, r < k → L r ≤ 200 := fun r hr => by
        have := hL.out (k - 1 - r) (by omega)
        rwa [show k - 1 - (k - 1 - r) = r by omega] at this
      have rb := rows_own h6.out (fun r => A (k - 1 - r)) (fun r => L (k - 1 - r)) (fun r => C (k - 1 - r)) (fun r => P (k - 1 - r)) (fun r hr => vals_at _ _ _ hr) (fun r hr => hrow _ B1.out _ (by omega))
      have rt := rows_own h7.out (fun r => A (k - 1 - r / 2)) (fun r => L (k - 1 - r / 2)) (fun r => C (k - 1 - r / 2)) (fun r => P (k - 1 - r / 2)) (fun r hr => vals_at _ _ _ hr) (fun r hr => hrow _ B1.out _ (by omega))
      have HXl := Lib.hid fun (W : World) (h : Below w.heap.size w W) => xor_any a0 k cap0 A L C P W (HR.out.below h) (by omega) (fun r hr => by have := hLr r hr; omega)
      have HXb := Lib.hid fun (W : World) (h : Below wr.heap.size wr W) => xor_any A6 k c6 _ _ _ _ W (rb.below h) (by omega) (fun r hr => by have := hLr (k - 1 - r) (by omega); omega)
      have HXt := Lib.hid fun (W : World) (h : Below wr.heap.size wr W) => xor_any A7 (2 * k) c7 _ _ _ _ W (rt.below h) (by omega) (fun r hr => by have := hLr (k - 1 - r / 2) (by omega); omega)
      have HXo := Lib.hid fun (W : World) (h : Below w.heap.size w W) (g : Nat) (hg : W.heap.size = g) => xor_one a1 m cap1 g p W hg (HP.out.below h (Nat.le_refl _)) HM.out HC1.out.1 HC1.out.2 (by omega)
      have HXm := Lib.hid fun (W : World) (h : Below w.heap.size w W) (B : Option Addr) (c : Nat) (ho : OwnE 22 1 W w1.heap.size B (k + 1) c (vals (fun r => rowV A L C (k - 1 - r)) k ++ [.slice a1 m cap1])) => xor_any B (k + 1) c _ _ _ _ W (rows_more ho (hrow W h) ⟨HP.out.below h (Nat.le_refl _), HM.out, HC1.out.1, HC1.out.2⟩) (by omega) (fun r hr => by
        by_cases h1 : r < k
        · simp only [h1, if_true]; have := hLr (k - 1 - r) (by omega); omega
        · simp only [h1, if_false]; omega)
      rw [show xr (rowsL (fun r => P (k - 1 - r)) k) = xr (rowsL P k) by rw [rows_back, xr_rev]] at HXb
      rw [xr_twice (fun r => P (k - 1 - r))] at HXt
      rw [xr_more] at HXm
      have hx : bits .xor .u64 ((xr (rowsL P k) : Nat) : Int) (lookN p : Int) = ((xr (rowsL P k) ^^^ lookN p : Nat) : Int) := u64_xor_nat _ _ (xr_lt _) (lookN_lt _)
      generalize xr (rowsL P k) ^^^ lookN p = Z at *
      generalize xr (rowsL P k) = X at *
      generalize lookN p = Y at *
      have HHx := Lib.hid hx
      clear rb rt hLr hrow
      go_wp2_with (first
        | (go_at_call 27; (with_reducible refine (HXo.out wr B1.out _ rfl).mono ?_); rintro e w2 ⟨rfl, hb2⟩; have HB2 := Lib.hid hb2; have Q2 := Lib.hid (B1.out.trans (hb2.mono B1.out.size)); clear hb2)
        | (go_at_call 27; (with_reducible refine (HXl.out w2 Q2.out).mono ?_); rintro e w3 ⟨rfl, hb3⟩; have HB3 := Lib.hid (HB2.out.trans (hb3.mono HB2.out.size)); have Q3 := Lib.hid (B1.out.trans (HB3.out.mono B1.out.size)); clear hb3)
        | (go_at_call 27; (with_reducible refine (HXb.out w3 HB3.out).mono ?_); rintro e w4 ⟨rfl, hb4⟩; have HB4 := Lib.hid (HB3.out.trans (hb4.mono HB3.out.size)); have Q4 := Lib.hid (B1.out.trans (HB4.out.mono B1.out.size)); clear hb4)
        | (go_at_call 27; (with_reducible refine (HXt.out w4 HB4.out).mono ?_); rintro e w5 ⟨rfl, hb5⟩; have HB5 := Lib.hid (HB4.out.trans (hb5.mono HB4.out.size)); have Q5 := Lib.hid (B1.out.trans (HB5.out.mono B1.out.size)); clear hb5)
        | (at_builtin; refine wpList_append_elt_want rowElt rfl (.tmp 70) (.tmp 72) rfl w1.heap.size A6 k c6 _ rfl ((h6.out.kept HB5.out (Nat.le_refl _)).alloc _) ⟨w5.heap.size, 0, none⟩ 1 1 [.slice a1 m cap1] rfl rfl (Blk.news (Blk.new w5 [.slice a1 m cap1] 22)) (by intro u hu; simp at hu; subst hu; rfl) (by omega) (by omega) ?_; intro A8 c8 w6 ho6 hb6; have HO6 := Lib.hid ho6; have Q6 := Lib.hid ((Q5.out.alloc Q5.out.size _).trans (hb6.mono HB1.out.size)); clear ho6 hb6)
        | (go_at_call 27; (with_reducible refine (HXm.out w6 Q6.out A8 c8 HO6.out).mono ?_); rintro e w7 ⟨rfl, hb7⟩; have Q7 := Lib.hid (Q6.out.trans (hb7.mono Q6.out.size)); clear hb7)
        | (go_at_call 27; (with_reducible refine (HXl.out w7 Q7.out).mono ?_); rintro e w8 ⟨rfl, hb8⟩; have Q8 := Lib.hid (Q7.out.trans (hb8.mono Q7.out.size)); clear hb8))
      go_ret
      exact ⟨rfl, Q8.out⟩
    · obtain ⟨i, rfl⟩ : ∃ i, j = i + 1 := ⟨j - 1, by omega⟩
      have e1 : (((i + 1 : Nat) : Int) - 1) = (i : Int) := by omega
      rw [e1]
      have hin : i < n := by omega
      have B1 := Lib.hid (HB1.out.trans (hbel.out.mono HB1.out.size))
      obtain ⟨b, off, rfl, hb, hc, hby, hl, hcap, hmax⟩ := (HR.out.below B1.out) i hin
      have hnk : n - 1 - k = i := by omega
      by_cases h200 : 200 < L i
      · have d3 : (200 : Int) < (L i : Int) := by omega
        clear hby hl hcap hmax
        go_wp2
        go_ret
        exact ⟨rfl, B1.out⟩
      · have d3 : ¬ (200 : Int) < (L i : Int) := by omega
        have hv6 := vals_succ (fun r => rowV A L C (n - 1 - r)) k
        have hv7 := vals_two (fun r => rowV A L C (n - 1 - r)) k
        simp only [hnk] at hv6 hv7
        have HV6 := Lib.hid hv6
        have HV7 := Lib.hid hv7
        have HLi := Lib.hid (show ∀ r, r < k + 1 → L (n - 1 - r) ≤ 200 from fun r hr => by
          rcases Nat.lt_or_ge r k with h | h
          · exact hL.out r h
          · obtain rfl : r = k := by omega
            rw [hnk]; omega)
        clear hv6 hv7 hby hl hcap hmax
        go_wp2_with (at_builtin; refine wpList_append_elt_at rowElt rfl (.tmp 35) (.tmp 40) rfl w1.heap.size A6 k c6 _ rfl (h6.out.alloc _) ⟨wr.heap.size, 0, none⟩ 1 1 [rowV A L C i] rfl rfl (Blk.news (Blk.new wr [rowV A L C i] 22)) (by intro u hu; simp at hu; subst hu; rfl) (by omega) (by omega) (by unfold maxLen; omega) ?_; intro A8 c8 w2 ho8 hg8 hat8; have HO8 := Lib.hid ho8; have HG8 := Lib.hid hg8; have HT8 := Lib.hid hat8; clear ho8 hg8 hat8)
        have h7a := h7.out.alloc (.cells #[rowV A L C i] 22)
        have H7 := Lib.hid (OwnE.keptG h7a HG8.out (fun g hg e => hap.out g e hg))
        have HAp := Lib.hid (apart_grown hap.out (fun g hg => Nat.lt_of_lt_of_le (Dc.OwnE.ltB h7.out g hg).2 (by simp)) HT8.out)
        have HB2 := Lib.hid ((hbel.out.alloc hbel.out.size (.cells #[rowV A L C i] 22)).trans (below_grown HG8.out (Nat.le_trans hbel.out.size (by simp)) (fun g hg => ((Dc.OwnE.ltB h6.out g hg).1))))
        obtain ⟨b2, off2, e2, hb2, hc2, _⟩ := (HR.out.below (HB1.out.trans (HB2.out.mono HB1.out.size))) i hin
        simp at e2
        obtain ⟨rfl, rfl⟩ := e2
        go_region_law (refine step_append_elt_at rowElt (o := ⟨some 52, _, _, _, _, _⟩) rfl (.tmp 42) (.tmp 51) rfl w1.heap.size A7 (2 * k) c7 _ rfl ((H7.out.alloc (.cells #[rowV A L C i, rowV A L C i] 22)).drew) ⟨w2.heap.size, 0, none⟩ 2 2 [rowV A L C i, rowV A L C i] rfl rfl (Blk.news (Blk.new w2 [rowV A L C i, rowV A L C i] 22).drew) (by intro u hu; simp at hu; subst hu; rfl) (by omega) (by omega) (by unfold maxLen; omega) ?_; intro A9 c9 w3 ho9 hg9 hat9; have HO9 := Lib.hid ho9; have HG9 := Lib.hid hg9; have HT9 := Lib.hid hat9; clear ho9 hg9 hat9)
        all_goals
          go_wp2
          go_round
          case rel =>
            have h8 := HO8.out.alloc (.cells #[rowV A L C i, rowV A L C i] 22)
            refine ⟨k + 1, i, A8, A9, c8, c9, by omega, by go_num, rfl, rfl, ?_, ?_, ?_, HLi, ?_⟩
            · rw [HV6.out]
              exact Lib.hid (OwnE.keptG (w := (w2.alloc (.cells #[rowV A L C i, rowV A L C i] 22)).drew) h8.drew HG9.out (fun g hg e => HAp.out g hg e))
            · rw [HV7.out]
              exact HO9
            · exact Lib.hid (apart_grown HAp.out.symm (fun g hg => (Dc.OwnE.ltB h8 g hg).2) HT9.out).symm
            · exact Lib.hid (((HB2.out.alloc HB2.out.size _).drew).trans (below_grown HG9.out (Nat.le_trans HB2.out.size (by simp)) (fun g hg => ((Dc.OwnE.ltB H7.out g hg).1))))
          case measure => simp [intOf]

theorem walk (a0 : Option Addr) (len0 cap0 : Nat) (A0 : Nat → Option Addr) (L0 C0 : Nat → Nat) (Z0 : Nat → List Int) (a1 : Option Addr) (len1 cap1 : Nat) (z1 : List Int) (w : World) (w0 : IsRows .u8 w a0 len0 cap0 A0 L0 C0 Z0) (w1 : IsRow .u8 w a1 len1 cap1 z1) :
    Calls Try.prog 7 #[.slice a0 len0 cap0, .slice a1 len1 cap1] w fun e w' => e = .returned (.bool true) ∧ Below w.heap.size w w' := by
  obtain ⟨hR, _, _⟩ := rows_in w0
  obtain ⟨hb, hL, hcap, hmax, _⟩ := w1.bytes
  by_cases h1 : 20 < len0
  · have d1 : (20 : Int) < (len0 : Int) := by omega
    clear w0 w1 hR hb hL
    go_enter Try.func7, Try.ntmps7
    go_wp2_with (go_at_call 8; (with_reducible refine (first_any _).mono ?_); rintro e w1 ⟨rfl, hb1⟩; have HB1 := Lib.hid hb1; clear hb1)
    go_ret
    exact ⟨rfl, HB1.out⟩
  by_cases h2 : 200 < len1
  · have d1 : ¬ (20 : Int) < (len0 : Int) := by omega
    have d2 : (200 : Int) < (len1 : Int) := by omega
    clear w0 w1 hR hb hL
    go_enter Try.func7, Try.ntmps7
    go_wp2_with (go_at_call 8; (with_reducible refine (first_any _).mono ?_); rintro e w1 ⟨rfl, hb1⟩; have HB1 := Lib.hid hb1; clear hb1)
    go_ret
    exact ⟨rfl, HB1.out⟩
  · exact walk_main a0 len0 cap0 A0 L0 C0 _ a1 len1 cap1 _ w hR (by omega) hb hL (by omega) hcap hmax
end Go.Proofs.Ytoklhjooldfcfaa.EntryXorsW
