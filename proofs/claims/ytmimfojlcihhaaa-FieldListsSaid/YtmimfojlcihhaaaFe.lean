/-
  What the document's own Split answers; two rows of bytes held against each other; the chapter's examples.
-/
import Derived.Test.YtmimfojlcihhaaaFsp
namespace Go.Proofs.Ytmimfojlcihhaaa.Fe
open Go.ChangeShapes Go.WideShapes Go.ChangeAt Go.RowKit
open Bytes8 Blk8 Fa Fb Fc Fsp OwnE
set_option linter.unusedVariables false
set_option linter.unusedSimpArgs false

theorem cut_h (A : Option Addr) (len cap hi : Nat) (h2 : hi ≤ cap) (w : World) :
    (Instr.slice 22 (.slice A len cap) none (some (.int .i64 (hi : Int))) none).run Try.prog w = .ok (.slice (cutA A cap 0) hi cap) w := by
  have ht : Try.prog.underlying 22 = some (.slice (Try.prog.elem 22)) := by rw [elem8]; exact Try.underlying22
  rw [run_slice_h w 22 A len cap ht .i64 hi (by omega) (by omega), elem8, sizeof8]
  simp [Result.andThen, sliced, cutA]

abbrev blank (w : World) : World := w.alloc (.cells #[.string { data := #[] }, .string { data := #[] }] 24)

set_option maxRecDepth 100000 in
theorem rsplit_any (a : Option Addr) (l : List Int) (len cap : Nat) (w : World) (hb : Bytes w a l) (hL : l.length = len) (hmax : len ≤ 1000000) (hcap : len ≤ cap) (hcap2 : cap ≤ maxLen) :
    Calls Try.prog 10 #[.slice a len cap] w (Splitted l w) := by
  unfold maxLen at hcap2
  have hA := hb.1
  have b0 : Below w.heap.size w (blank w) := (Below.refl w.heap.size w).alloc (Nat.le_refl _) _
  have hb1 : Bytes (blank w) a l := hb.below b0 (Nat.le_refl _)
  have hb2 : Bytes (blank w).drew a l := hb1
  have R := Lib.hid (Blk.new w [.string { data := #[] }, .string { data := #[] }] 24)
  have HE : Hid (splitE l = if cutI l < l.length then (if nmB (l.take (cutI l)) = true then (if 256 < l.length - cutI l - 1 then 21 else 0) else 20) else 20) := Lib.hid rfl
  have HNo := Lib.hid (fun h => split_not (l := l) h)
  have HN1 : Hid (splitE l = 0 → splitN l = l.take (cutI l)) := Lib.hid fun h => by unfold splitN; rw [if_pos h]
  have HV1 : Hid (splitE l = 0 → splitV l = l.drop (cutI l + 1)) := Lib.hid fun h => by unfold splitV; rw [if_pos h]
  have HA := Lib.hid hA
  have HB := Lib.hid hb1
  have HL := Lib.hid hL
  unfold Splitted
  dsimp only [pv, blank] at *
  have HB0 := Lib.hid b0
  clear hb1 hb2 hL hA hb b0
  go_enter Try.func10, Try.ntmps10
  go_wp2
  go_loop [4] (fun i => ∃ k : Nat, k ≤ len ∧ i = .int .i64 (k : Int) ∧ Hid (∀ j, j < k → l.getD j 0 ≠ 61)) (fun i => len - (intOf i).toNat)
  case atStart => exact ⟨0, by omega, rfl, Lib.hid fun j hj => absurd hj (by omega)⟩
  case round =>
    obtain ⟨k, hk, rfl, hall⟩ := hrel
    rcases Nat.lt_or_ge k len with hlt | hge
    · obtain ⟨b, off, rfl, hblt, hc⟩ := HB.out.spot (by have := HL.out; omega)
      have hcell := hc k (by have := HL.out; omega)
      obtain ⟨c1, c2⟩ := HA.out.at_ k
      have hin : (k : Int) < (len : Int) := by omega
      by_cases h61 : l.getD k 0 = 61
      · have hcut : cutI l = k := cutI_is (by have := HL.out; omega) h61 hall.out
        rw [h61] at hcell
        clear c1 c2 h61 hall hc
        rw [hcut, HL.out, if_pos hlt] at HE
        rw [hcut] at HN1 HV1
        clear hcut
        have hs1 := cut_h (some ⟨b, off, none⟩) len cap k (by omega)
        have hs2 : ∀ w, (Instr.slice 22 (.slice (some ⟨b, off, none⟩) len cap) (some (.int .i64 ((k : Int) + 1))) none none).run Try.prog w = .ok (.slice (cutA (some ⟨b, off, none⟩) cap (k + 1)) (len - (k + 1)) (cap - (k + 1))) w := cut_l (some ⟨b, off, none⟩) len cap (k + 1) (by omega)
        have hv1 := ((OwnE.Bytes.cut HB.out cap 0 k (by rw [HL.out]; omega))).string cap k (by simp; have := HL.out; omega)
        have hv1' := ((OwnE.Bytes.cut HB.out.drew cap 0 k (by rw [HL.out]; omega))).string cap k (by simp; have := HL.out; omega)
        have hv2' := ((OwnE.Bytes.cut HB.out.drew cap (k + 1) (len - (k + 1)) (by rw [HL.out]; omega))).string (cap - (k + 1)) (len - (k + 1)) (by simp; have := HL.out; omega)
        rw [List.drop_zero] at hv1 hv1'
        rw [List.take_of_length_le (by simp; have := HL.out; omega)] at hv2'
        generalize cutA (some ⟨b, off, none⟩) cap 0 = A1 at *
        generalize cutA (some ⟨b, off, none⟩) cap (k + 1) = A2 at *
        have HN := Lib.hid fun w => rname_any (l.take k) (HA.out.take k) (by have := HL.out; simp; omega) w
        have f0 := R.out.frozen 0
        have f1 := R.out.frozen 1
        have g0 := R.out.cell (i := 0) rfl
        have g1 := R.out.cell (i := 1) rfl
        cases hnm : nmB (l.take k) with
        | false =>
          rw [hnm] at HN HE
          have hF : splitE l = 20 := HE.out
          obtain ⟨e1, e2⟩ := HNo.out (by rw [hF]; decide)
          have HR := Lib.hid (And.intro hF (And.intro e1 e2))
          clear HE hF e1 e2 hnm HNo HN1 HV1 hs2 hv2' hv1'
          change (convert _ _ _).run _ _ = .ok (.string (T (l.take k))) _ at hv1
          generalize T (l.take k) = S1 at *
          go_wp2_with (go_at_call 17; (with_reducible refine (HN.out _).mono ?_); rintro e w' ⟨rfl, rfl⟩)
          refine bodyPost_ret (v := .tuple #[.agg #[.string { data := #[] }, .string { data := #[] }], .int .i64 20]) (by simp [results_cell_tmp Try.results10, go_sem, Result.andThen]) rfl ⟨by rw [HR.out.1, HR.out.2.1, HR.out.2.2, ← T_nil], ?_⟩
          (repeat (first | (with_reducible exact HB0.out) | (with_reducible exact Below.refl _ _) | refine Below.setCell ?_ (by simp) _ | refine Below.alloc ?_ (by simp) _ | refine Below.drew ?_ | refine below_drewN ?_ _))
        | true =>
          rw [hnm] at HN HE
          rw [if_pos rfl] at HE
          change (convert _ _ _).run _ _ = .ok (.string (T (l.take k))) _ at hv1
          change (convert _ _ _).run _ _ = .ok (.string (T (l.take k))) _ at hv1'
          change (convert _ _ _).run _ _ = .ok (.string (T (l.drop (k + 1)))) _ at hv2'
          by_cases hv : 256 < len - k - 1
          · have hF : splitE l = 21 := HE.out.trans (if_pos hv)
            obtain ⟨e1, e2⟩ := HNo.out (by rw [hF]; decide)
            have HR := Lib.hid (And.intro hF (And.intro e1 e2))
            clear HE hF e1 e2 hnm HNo HN1 HV1 hs2 hv2' hv1'
            have hv2 : (256 : Int) < (len : Int) - (k : Int) - 1 := by omega
            generalize T (l.take k) = S1 at *
            go_wp2_with (go_at_call 17; (with_reducible refine (HN.out _).mono ?_); rintro e w' ⟨rfl, rfl⟩)
            refine bodyPost_ret (v := .tuple #[.agg #[.string { data := #[] }, .string { data := #[] }], .int .i64 21]) (by simp [results_cell_tmp Try.results10, go_sem, Result.andThen]) rfl ⟨by rw [HR.out.1, HR.out.2.1, HR.out.2.2, ← T_nil], ?_⟩
            (repeat (first | (with_reducible exact HB0.out) | (with_reducible exact Below.refl _ _) | refine Below.setCell ?_ (by simp) _ | refine Below.alloc ?_ (by simp) _ | refine Below.drew ?_ | refine below_drewN ?_ _))
          · have hF : splitE l = 0 := HE.out.trans (if_neg hv)
            have HR := Lib.hid (And.intro hF (And.intro (HN1.out hF) (HV1.out hF)))
            clear HE hF hnm HNo HN1 HV1
            have hv2 : ¬ (256 : Int) < (len : Int) - (k : Int) - 1 := by omega
            generalize hS1 : T (l.take k) = S1 at *
            generalize hS2 : T (l.drop (k + 1)) = S2 at *
            have HS1 := Lib.hid hS1
            have HS2 := Lib.hid hS2
            clear hS1 hS2
            go_wp2_with (go_at_call 17; (with_reducible refine (HN.out _).mono ?_); rintro e w' ⟨rfl, rfl⟩)
            go_region
            all_goals
              go_wp2
              refine bodyPost_ret (v := .tuple #[.agg #[.string S1, .string S2], .int .i64 0]) (by simp [results_cell_tmp Try.results10, go_sem, Result.andThen]) rfl ⟨by rw [HR.out.1, HR.out.2.1, HR.out.2.2, HS1.out, HS2.out], ?_⟩
              (repeat (first | (with_reducible exact HB0.out) | (with_reducible exact Below.refl _ _) | refine Below.setCell ?_ (by simp) _ | refine Below.alloc ?_ (by simp) _ | refine Below.drew ?_ | refine below_drewN ?_ _))
      · have h61b : (l.getD k 0 != 61) = true := by simpa using h61
        have hall2 := Lib.hid (fun j (hj : j < k + 1) => (by
          rcases Nat.lt_or_ge j k with h1 | h1
          · exact hall.out j h1
          · obtain rfl : j = k := by omega
            exact h61 : l.getD j 0 ≠ 61))
        clear hall hc h61
        generalize l.getD k 0 = c at *
        go_wp2
        go_round
        case rel => exact ⟨k + 1, by omega, by go_num, hall2⟩
        case measure => simp [intOf]; omega
    · obtain rfl : k = len := by omega
      have hcut : cutI l = l.length := cutI_none fun j hj => hall.out j (by have := HL.out; omega)
      rw [hcut, if_neg (Nat.lt_irrefl _)] at HE
      have hF : splitE l = 20 := HE.out
      obtain ⟨e1, e2⟩ := HNo.out (by rw [hF]; decide)
      have HR := Lib.hid (And.intro hF (And.intro e1 e2))
      clear HE hF e1 e2 hcut hall
      go_wp2
      refine bodyPost_ret (v := .tuple #[.agg #[.string { data := #[] }, .string { data := #[] }], .int .i64 20]) (by simp [results_cell_tmp Try.results10, go_sem, Result.andThen]) rfl ⟨by rw [HR.out.1, HR.out.2.1, HR.out.2.2, ← T_nil], ?_⟩
      (repeat (first | (with_reducible exact HB0.out) | (with_reducible exact Below.refl _ _) | refine Below.setCell ?_ (by simp) _ | refine Below.alloc ?_ (by simp) _ | refine Below.drew ?_ | refine below_drewN ?_ _))
end Go.Proofs.Ytmimfojlcihhaaa.Fe
