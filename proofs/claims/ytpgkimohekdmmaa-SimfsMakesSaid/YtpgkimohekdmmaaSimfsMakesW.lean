/-
  The walk of SimfsMakes: at any numbers the law returns true, and nothing that was there is written.
-/
import Derived.Test.YtpgkimohekdmmaaDh
import Derived.Test.YtpgkimohekdmmaaNumb
import Derived.Deep.RegionLaw
namespace Go.Proofs.Ytpgkimohekdmmaa.SimfsMakesW
open Go.ChangeShapes Go.WideShapes Go.ChangeAt Go.RowKit
open Bytes8 Blk8 Own8 OwnA OwnM OwnE Fa Fo Ta Ua Kf Dm Dp Dh Dl Dx Pv8 Numb Go.Maps
set_option linter.unusedVariables false
set_option linter.unusedSimpArgs false
set_option maxRecDepth 100000

def L10 : List Int := [48, 49, 50, 51, 52, 53, 54, 55, 56, 57]
def nm (k : Nat) : List Int := [102, 48 + ((k / 10 : Nat) : Int), 48 + ((k % 10 : Nat) : Int)]
theorem nm_ok {k : Nat} (h : k < 40) : nmOk (nm k) = true ∧ AllB (nm k) := by
  have e : nmOk (nm k) = true := by
    unfold nmOk nm
    simp
    omega
  exact ⟨e, (nmOk_all e).1⟩
theorem nm_inj {j k : Nat} (h : nm j = nm k) : j = k := by
  unfold nm at h
  simp only [List.cons.injEq, and_true, true_and] at h
  omega
theorem nm_g (j : Nat) : [(103 : Int)] ≠ nm j := by unfold nm; simp
def D10 : ByteArray := { data := #[48, 49, 50, 51, 52, 53, 54, 55, 56, 57] }
theorem D10_eq : D10 = T L10 := by decide
theorem cut10 : ∀ k, k < 10 → (L10.drop k).take (k + 1 - k) = [48 + (k : Int)] := by decide
theorem slice_nm {k : Nat} (h : k < 10) (w : World) : (Instr.slice 9 (.string { data := #[48, 49, 50, 51, 52, 53, 54, 55, 56, 57] }) (some (.int .i64 (k : Int))) (some (.int .i64 ((k : Int) + 1))) none).run Try.prog w = .ok (.string (T [48 + (k : Int)])) w := by
  have hs : (D10.size : Int) = 10 := by decide
  have := run_slice_string (P := Try.prog) w 9 D10 .i64 .i64 (k : Int) ((k : Int) + 1) Try.underlying9 (by omega) (by omega) (by omega)
  rw [show ((k : Int)).toNat = k by omega, show ((k : Int) + 1).toNat = k + 1 by omega, D10_eq, T_cut, cut10 k h] at this
  rw [← D10_eq] at this
  exact this
theorem T_f00 : ({ data := #[102, 48, 48] } : ByteArray) = T (nm 0) := by decide
theorem T_g : ({ data := #[103] } : ByteArray) = T [103] := by decide

/-- Where the law stands ahead of round k. -/
structure At (d : Dir) (k : Nat) : Prop where
  made : Made d (min k 24) 0
  num : d.made = min k 24
  free : ∀ j, min k 24 ≤ j → at_ d.row (nm j) = none
  g : at_ d.row [103] = none
  zero : 0 < k → ∃ b, at_ d.row (nm 0) = some b
theorem at_new (room : Nat) : At (Dir.new room) 0 := ⟨made_new _, rfl, fun j _ => rfl, rfl, fun h => absurd h (by omega)⟩
theorem at_make {d : Dir} {k : Nat} (h : At d k) (hk : k < 40) : (d.make (nm k)).1 = (if k < 24 then 0 else 15) ∧ At (d.make (nm k)).2 (k + 1) := by
  by_cases h24 : k < 24
  · rw [if_pos h24]
    have e : min k 24 = k := by omega
    have hm := h.made
    rw [e] at hm
    obtain ⟨h1, h2, h3⟩ := made_make hm (by omega) (nm_ok hk).1 (h.free k (by omega))
    refine ⟨h1, ?_⟩
    refine ⟨by rw [show min (k + 1) 24 = k + 1 by omega]; exact h2, ?_, fun j hj => ?_, ?_, fun _ => ?_⟩
    · rw [make_fresh hm.on hm.fuse (by have := hm.row; omega) (nm_ok hk).1 (h.free k (by omega))]
      show d.made + 1 = _
      rw [h.num]; omega
    · rw [h3, if_neg (fun e => by have := nm_inj e; omega)]
      exact h.free j (by omega)
    · rw [h3, if_neg (nm_g k)]; exact h.g
    · rw [h3]
      by_cases h0 : k = 0
      · subst h0; exact ⟨_, if_pos rfl⟩
      · rw [if_neg (fun e => h0 (nm_inj e).symm)]
        exact h.zero (by omega)
  · rw [if_neg h24]
    rw [make_full h.made.on (nm_ok hk).1 (h.free k (by omega)) (by have := h.made.row; omega)]
    refine ⟨rfl, ?_⟩
    have e : min (k + 1) 24 = min k 24 := by omega
    exact ⟨by rw [e]; exact h.made, by rw [e]; exact h.num, by rw [e]; exact h.free, h.g, fun _ => h.zero (by omega)⟩

/-- What the law asks behind the rounds. -/
theorem at_end {d : Dir} {k : Nat} (h : At d k) (h0 : 0 < k) : d.make (nm 0) = (17, d) ∧ (d.drop (nm 0)).1 = 0 ∧ (d.drop (nm 0)).2.drop (nm 0) = (16, (d.drop (nm 0)).2) ∧ ((d.drop (nm 0)).2.make [103]).1 = 0 ∧ ((d.drop (nm 0)).2.make [103]).2.names.length = min k 24 ∧ (d.drop (nm 0)).2.made = d.made ∧ (d.drop (nm 0)).2.past.length ≤ 25 := by
  obtain ⟨b, hb⟩ := h.zero h0
  have h00 := (nm_ok (k := 0) (by omega)).1
  have hg : nmOk [103] = true := by decide
  have hm := h.made
  have hrow := hm.row
  have e1 := drop_there hm.on hm.fuse h00 hb
  have hol : (out d.row (nm 0)).length = min k 24 - 1 := by rw [out_length hm.good.row.rises, hb, if_pos (by rfl), hrow]
  have hgo := good_drop hm.good (nm 0)
  rw [e1] at hgo
  have hag : at_ (out d.row (nm 0)) [103] = none := by rw [out_at, if_neg (nm_g 0)]; exact h.g
  rw [e1]
  have e2 := make_fresh (d := d.step (out d.row (nm 0))) hm.on hm.fuse (by show (out d.row (nm 0)).length < 24; omega) hg hag
  refine ⟨make_there hm.on h00 hb, rfl, drop_none (d := d.step (out d.row (nm 0))) hm.on h00 (by show at_ (out d.row (nm 0)) (nm 0) = none; rw [out_at, if_pos rfl]), by rw [e2], ?_, rfl, ?_⟩
  · rw [e2]
    unfold Dir.names
    have : (({ d.step (out d.row (nm 0)) with made := (d.step (out d.row (nm 0))).made + 1 }.step (put (d.step (out d.row (nm 0))).row [103] ((d.step (out d.row (nm 0))).made + 1))).lay ((d.step (out d.row (nm 0))).made + 1) default).off = false := hm.on
    rw [this, if_neg (by simp), List.length_map]
    show (put (out d.row (nm 0)) [103] _).length = _
    rw [put_length (out_rises hm.good.row.rises _), hag, if_neg (by simp), hol]
    omega
  · show (d.past ++ [d.row]).length ≤ 25
    have := hm.past
    simp; omega

set_option maxHeartbeats 4000000 in
theorem walk_in (room : Nat) (N : Nat) (a1 : Int) (w : World) (hr1 : 4096 ≤ room) (hr2 : room ≤ 1048576) (hN : numBelow a1 40 = N) (hN2 : N < 40) :
    Calls Try.prog 3 #[.int .i64 (room : Int), .int .i64 a1] w fun e w' => e = .returned (.bool true) ∧ Below w.heap.size w w' := by
  have HN := Lib.hid hN
  have HNw := Lib.hid fun w1 (h : w.heap.size ≤ w1.heap.size) => new_b w1 w.heap.size h room hr1 hr2
  have HFr := Lib.hid fun w1 g (h : DirB w.heap.size w1 g (Dir.new room)) => free_b w1 w.heap.size g _ h
  have hfr : (Dir.new room).free = room := by show room - 0 = room; omega
  rw [hfr] at HFr
  clear hN hfr
  go_enter Try.func3, Try.ntmps3
  go_wp2_with (first
    | (go_at_call 8; (with_reducible refine (first_any _).mono ?_); rintro e w1 ⟨rfl, hb1⟩; have HB1 := Lib.hid hb1; clear hb1)
    | (go_at_call 9; (with_reducible refine (HNw.out w1 HB1.out.size).mono ?_); rintro e w2 ⟨g, rfl, hD2, hb2⟩; have HD2 := Lib.hid hD2; have HB2 := Lib.hid (HB1.out.trans hb2); clear hD2 hb2)
    | (go_at_call 10; (with_reducible refine (HFr.out w2 g HD2.out).mono ?_); rintro e w3 ⟨rfl, hD3, hb3⟩; have HD3 := Lib.hid hD3; have HB3 := Lib.hid (HB2.out.trans hb3); clear hD3 hb3)
    | (go_at_call 11; (with_reducible refine (number_nat a1 40 N _ (by decide) (by decide) HN.out).mono ?_); rintro e w' ⟨rfl, rfl⟩))
  go_loopw [8] (fun i wr => ∃ (k : Nat) (d : Dir), k ≤ N ∧ i = .int .i64 (k : Int) ∧ Hid (At d k) ∧ Hid (DirB w.heap.size wr g d) ∧ Hid (Below w.heap.size w wr)) (fun i _ => N - (RowKit.intOf i).toNat)
  case atStart => exact ⟨0, _, by omega, rfl, Lib.hid (at_new room), HD3, HB3⟩
  case round =>
    obtain ⟨k, d, hk, rfl, hat, hD, hB⟩ := hrel
    rcases Nat.lt_or_ge k N with hlt | hge
    · have hin : (k : Int) < (N : Int) := by omega
      have hk40 : k < 40 := by omega
      have hmk := make_b wr.drew w.heap.size g d (hD.out.below ⟨rfl, rfl, rfl, Nat.le_refl _, fun _ _ => rfl⟩) (nm k) (nm_ok hk40).2 (by simp [nm]) (by have := hat.out.num; omega) (by have := hat.out.made.past; omega)
      rw [(at_make hat.out hk40).1] at hmk
      have HAt2 := Lib.hid (at_make hat.out hk40).2
      obtain ⟨p, hp⟩ : ∃ p, p = k / 10 := ⟨_, rfl⟩
      obtain ⟨q, hq⟩ : ∃ q, q = k % 10 := ⟨_, rfl⟩
      have hdp : (k : Int).tdiv 10 = (p : Int) := by rw [Int.tdiv_eq_ediv_of_nonneg (by omega)]; omega
      have hdq : (k : Int).tmod 10 = (q : Int) := by rw [Int.tmod_eq_emod_of_nonneg (by omega)]; omega
      have hp4 : p < 10 := by omega
      have hq4 : q < 10 := by omega
      have hw1 : IntKind.i64.wrap (p : Int) = p := by rw [IntKind.wrap_i64]; omega
      have hw2 : IntKind.i64.wrap ((p : Int) + 1) = (p : Int) + 1 := by rw [IntKind.wrap_i64]; omega
      have hw3 : IntKind.i64.wrap (q : Int) = q := by rw [IntKind.wrap_i64]; omega
      have hw4 : IntKind.i64.wrap ((q : Int) + 1) = (q : Int) + 1 := by rw [IntKind.wrap_i64]; omega
      have HBd := Lib.hid (show Below w.heap.size w wr.drew from hB.out.drew)
      have hs1 := slice_nm hp4
      have hs2 := slice_nm hq4
      have hnm : nm k = [102, 48 + (p : Int), 48 + (q : Int)] := by unfold nm; rw [← hp, ← hq]
      rw [hnm] at hmk HAt2
      have hc1 : ({ data := #[102] } : ByteArray) ++ T [48 + (p : Int)] = T [102, 48 + (p : Int)] := by
        rw [show ({ data := #[102] } : ByteArray) = T [102] by decide, T_app]; rfl
      have hc2 : T [102, 48 + (p : Int)] ++ T [48 + (q : Int)] = T [102, 48 + (p : Int), 48 + (q : Int)] := by rw [T_app]; rfl
      have hz1 : (T [48 + (p : Int)]).size = 1 := by rw [T_size]; rfl
      have hz2 : (T [102, 48 + (p : Int)]).size = 2 := by rw [T_size]; rfl
      have hz3 : (T [48 + (q : Int)]).size = 1 := by rw [T_size]; rfl
      have HMk := Lib.hid hmk
      have HP := Lib.hid hp
      have HQq := Lib.hid hq
      clear hmk hp hq hnm
      by_cases h24 : k < 24
      · rw [if_pos h24] at HMk
        have h24' : (k : Int) < 24 := by omega
        go_wp2_with fail
        go_region_law (go_simp; go_at_call 12; (with_reducible refine HMk.out.mono ?_); rintro e w4 ⟨rfl, hD4, hb4⟩; have HD4 := Lib.hid hD4; have HB4 := Lib.hid (HBd.out.trans hb4); clear hD4 hb4)
        all_goals
          go_wp2
          go_roundw
          case rel => exact ⟨k + 1, _, by omega, by go_num, HAt2, HD4, HB4⟩
          case measure => simp [RowKit.intOf]; omega
      · rw [if_neg h24] at HMk
        have h24' : ¬ (k : Int) < 24 := by omega
        go_wp2_with fail
        go_region_law (go_simp; go_at_call 12; (with_reducible refine HMk.out.mono ?_); rintro e w4 ⟨rfl, hD4, hb4⟩; have HD4 := Lib.hid hD4; have HB4 := Lib.hid (HBd.out.trans hb4); clear hD4 hb4)
        all_goals
          go_wp2
          go_roundw
          case rel => exact ⟨k + 1, _, by omega, by go_num, HAt2, HD4, HB4⟩
          case measure => simp [RowKit.intOf]; omega
    · obtain rfl : k = N := by omega
      have hin : ¬ ((k : Int) < (k : Int)) := by omega
      have hmin : min (k : Int) 24 = ((min k 24 : Nat) : Int) := by omega
      have hmax : max ((min k 24 : Nat) : Int) 0 = ((min k 24 : Nat) : Int) := by omega
      have hit1 : (if (24 : Int) < (k : Int) then (24 : Int) else (k : Int)) = ((min k 24 : Nat) : Int) := by split <;> omega
      have hit2 : (if ((min k 24 : Nat) : Int) < 0 then (0 : Int) else ((min k 24 : Nat) : Int)) = ((min k 24 : Nat) : Int) := by rw [if_neg (by omega)]
      by_cases h0 : 0 < k
      · have h0' : (0 : Int) < (k : Int) := by omega
        obtain ⟨z1, z2, z3, z4, z5, z6, z7⟩ := at_end hat.out h0
        have hnum := hat.out.num
        have hpast := hat.out.made.past
        have HM1 := make_b wr w.heap.size g d hD.out (nm 0) (nm_ok (k := 0) (by omega)).2 (by decide) (by omega) (by omega)
        rw [z1] at HM1
        have HM1 := Lib.hid HM1
        have HD1 := Lib.hid fun w1 (h : DirB w.heap.size w1 g d) => drop_b w1 w.heap.size g d h (nm 0) (nm_ok (k := 0) (by omega)).2 (by decide) (by omega)
        rw [z2] at HD1
        have HD2 := Lib.hid fun w1 (h : DirB w.heap.size w1 g (d.drop (nm 0)).2) => drop_b w1 w.heap.size g _ h (nm 0) (nm_ok (k := 0) (by omega)).2 (by decide) (by omega)
        rw [z3] at HD2
        have HM2 := Lib.hid fun w1 (h : DirB w.heap.size w1 g (d.drop (nm 0)).2) => make_b w1 w.heap.size g _ h [103] (nmOk_all (show nmOk [103] = true by decide)).1 (by decide) (by omega) (by omega)
        rw [z4] at HM2
        have HNm := Lib.hid fun w1 (h : DirB w.heap.size w1 g ((d.drop (nm 0)).2.make [103]).2) => names_b w1 w.heap.size g _ h
        rw [z5] at HNm
        rw [← T_f00] at HM1 HD1 HD2
        rw [← T_g] at HM2
        clear z1 z2 z3 z4 z5 z6 z7 hnum hpast h0
        go_wp2_with (first
          | (go_at_call 12; (with_reducible refine HM1.out.mono ?_); rintro e w4 ⟨rfl, hD4, hb4⟩; have HD4 := Lib.hid hD4; have HB4 := Lib.hid (hB.out.trans hb4); clear hD4 hb4)
          | (go_at_call 13; (with_reducible refine (HD1.out w4 HD4.out).mono ?_); rintro e w5 ⟨rfl, hD5, hb5⟩; have HD5 := Lib.hid hD5; have HB5 := Lib.hid (HB4.out.trans hb5); clear hD5 hb5)
          | (go_at_call 13; (with_reducible refine (HD2.out w5 HD5.out).mono ?_); rintro e w6 ⟨rfl, hD6, hb6⟩; have HD6 := Lib.hid hD6; have HB6 := Lib.hid (HB5.out.trans hb6); clear hD6 hb6)
          | (go_at_call 12; (with_reducible refine (HM2.out w6 HD6.out).mono ?_); rintro e w7 ⟨rfl, hD7, hb7⟩; have HD7 := Lib.hid hD7; have HB7 := Lib.hid (HB6.out.trans hb7); clear hD7 hb7)
          | (go_at_call 14; (with_reducible refine (HNm.out w7 HD7.out).mono ?_); rintro e w8 ⟨A8, c8, rfl, _, hD8, hb8⟩))
        go_ret
        exact ⟨by first | rfl | exact ret_bool (beq_iff_eq.2 (by omega)), HB7.out.trans hb8⟩
      · obtain rfl : k = 0 := by omega
        have hl : d.names.length = 0 := names_on (by simpa using hat.out.made)
        have HNm := names_b wr w.heap.size g d hD.out
        rw [hl] at HNm
        have HNm := Lib.hid HNm
        go_wp2_with (go_at_call 14; (with_reducible refine HNm.out.mono ?_); rintro e w8 ⟨A8, c8, rfl, _, hD8, hb8⟩)
        go_ret
        exact ⟨rfl, hB.out.trans hb8⟩

theorem walk (a0 a1 : Int) (w : World) (w0 : (Lit.int .i64 a0).wf = true) (w1 : (Lit.int .i64 a1).wf = true) :
    Calls Try.prog 3 #[.int .i64 a0, .int .i64 a1] w fun e w' => e = .returned (.bool true) ∧ Below w.heap.size w w' := by
  obtain ⟨N, hN, hN2⟩ := below_nat a1 40 (by decide)
  by_cases h : a0 < 4096 ∨ 1048576 < a0
  · have HNw := Lib.hid fun w1 => Dn.new_any w1 a0
    simp only [if_pos h] at HNw
    by_cases h1 : a0 < 4096
    · go_enter Try.func3, Try.ntmps3
      go_wp2_with (first
        | (go_at_call 8; (with_reducible refine (first_any _).mono ?_); rintro e w1 ⟨rfl, hb1⟩; have HB1 := Lib.hid hb1; clear hb1)
        | (go_at_call 9; (with_reducible refine (HNw.out w1).mono ?_); rintro e w2 ⟨rfl, rfl⟩))
      go_ret
      exact ⟨rfl, HB1.out⟩
    · have h2 : 1048576 < a0 := by omega
      go_enter Try.func3, Try.ntmps3
      go_wp2_with (first
        | (go_at_call 8; (with_reducible refine (first_any _).mono ?_); rintro e w1 ⟨rfl, hb1⟩; have HB1 := Lib.hid hb1; clear hb1)
        | (go_at_call 9; (with_reducible refine (HNw.out w1).mono ?_); rintro e w2 ⟨rfl, rfl⟩))
      go_ret
      exact ⟨rfl, HB1.out⟩
  · obtain ⟨r, rfl⟩ := Int.eq_ofNat_of_zero_le (show 0 ≤ a0 by omega)
    exact walk_in r N a1 w (by omega) (by omega) hN.out (by omega)
end Go.Proofs.Ytpgkimohekdmmaa.SimfsMakesW
