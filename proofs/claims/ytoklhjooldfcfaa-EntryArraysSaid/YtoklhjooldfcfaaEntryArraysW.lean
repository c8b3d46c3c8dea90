/-
  The walk of EntryArrays.
-/
import Derived.Test.YtoklhjooldfcfaaYi
namespace Go.Proofs.Ytoklhjooldfcfaa.EntryArraysW
open Go.ChangeShapes Go.WideShapes Go.ChangeAt Go.RowKit
open Bytes8 Blk8 Own8 OwnM OwnE OwnA LeNum Ob Rows2 Dc Od Yc Yp Yd Yg Yh Yj Yi Yb Numb
set_option linter.unusedVariables false
set_option linter.unusedSimpArgs false
set_option maxRecDepth 100000

theorem taNum_no {l : List Int} {a : Nat} {k c : Int} (h : tabC l a k = c) (hc : c ≠ 0) : taNum l a k = 0 := if_neg (by rw [h]; exact hc)
theorem ar_no {l : List Int} {a : Nat} {c : Int} (h : ecode l a 6 8 8 = c) (hc : c ≠ 0) : arX l a = 0 ∧ arM l a = 0 := ⟨if_neg (by rw [h]; exact hc), if_neg (by rw [h]; exact hc)⟩
set_option maxHeartbeats 16000000 in
theorem walk_main (nx : Int) (A : Option Addr) (n cap : Nat) (f : Nat → Int) (kd : Int) (w : World) (hx : 0 ≤ nx ∧ nx ≤ 18446744073709551615) (hi : InInts .u64 w A n f) (hn : n ≤ 60) (h0 : 0 < n) (j : Nat) (hj : Hid (numBelow kd 2 = j)) (hj2 : j = 0 ∨ j = 1) :
    Calls Try.prog 6 #[.int .u64 nx, .slice A n cap, .int .i64 kd] w fun e w' => e = .returned (.bool true) ∧ Below w.heap.size w w' := by
  have HI := Lib.hid hi
  have hWf : Wd f n := fun i h => InInts.bd hi i h
  have d1 : ¬ (60 : Int) < (n : Int) := by omega
  have d2 : ((n : Int) == 0) = false := by simp; omega
  have d3 : decide ((60 : Int) < (n : Int)) = false := by simp; omega
  obtain ⟨b1, b2, b3, b4⟩ := arr_back nx f n hx hWf h0 (by omega)
  have HPa := Lib.hid fun (W : World) (h : Below w.heap.size w W) => putArray_any nx A n cap f W (HI.out.below h) (by omega) hx
  have HPe := Lib.hid fun (W : World) => putArray_any nx none 0 0 f W (fun i hi => absurd hi (by omega)) (by decide) hx
  have HRa := Lib.hid fun (W : World) (base : Nat) (B : Option Addr) (c : Nat) (h : Own W base B (16 + (8 + 8 * n) + padN (8 + 8 * n)) c (objB 6 (arrB nx (ints f n)))) => readArray_0 B _ _ c W h.bytes h.2.1 (by have := padN_le (8 + 8 * n); omega) (own_cap h).1 (own_cap h).2
  unfold Owned at HPa HPe
  unfold ArrTold at HRa
  rw [b1, b2, b3] at HRa
  have HWf := Lib.hid hWf
  have HWx := Lib.hid (show Wd (fun _ => nx) n from fun _ _ => hx)
  have HNm := Lib.hid fun (W : World) => number_nat kd 2 j W (by decide) (by decide) hj.out
  have HPt := Lib.hid fun (K : Int) (hK : isTab K = true) (B : Option Addr) (c : Nat) (W : World) (h : In2 W B n f (fun _ => nx)) => putTable_yes K B n c f (fun _ => nx) W hK h (by omega)
  have HPn := Lib.hid fun (K : Int) (hK : isTab K = true) (W : World) => putTable_yes K none 0 0 f (fun _ => nx) W hK (in2_none _ _ _ _) (by decide)
  have HRt := Lib.hid fun (K K2 : Int) (W : World) (base : Nat) (B : Option Addr) (c : Nat) (h : Own W base B (16 + 16 * n + padN (16 * n)) c (objB K (nums (prs f (fun _ => nx) n)))) => readTable_0 B _ _ c K2 W h.bytes h.2.1 (by have := padN_le (16 * n); omega) (own_cap h).1 (own_cap h).2
  have HRx := Lib.hid fun (K : Int) (W : World) (base : Nat) (B : Option Addr) (c : Nat) (h : Own W base B (16 + 16 * n + padN (16 * n)) c (objB K (nums (prs f (fun _ => nx) n)))) => readArray_0 B _ _ c W h.bytes h.2.1 (by have := padN_le (16 * n); omega) (own_cap h).1 (own_cap h).2
  have HRn := Lib.hid fun (K : Int) (W : World) (base : Nat) (B : Option Addr) (c : Nat) (h : Own W base B (16 + 16 * 0 + padN (16 * 0)) c (objB K (nums (prs f (fun _ => nx) 0)))) => readTable_0 B _ _ c K W h.bytes h.2.1 (by decide) (own_cap h).1 (own_cap h).2
  have HRe := Lib.hid fun (W : World) (base : Nat) (B : Option Addr) (c : Nat) (h : Own W base B (16 + (8 + 8 * 0) + padN (8 + 8 * 0)) c (objB 6 (arrB nx (ints f 0)))) => readArray_0 B _ _ c W h.bytes h.2.1 (by decide) (own_cap h).1 (own_cap h).2
  unfold Owned at HPt HPn
  unfold TabTold at HRt HRn
  unfold ArrTold at HRx HRe
  rw [arr_none, (ar_no (arr_none nx f) (by decide)).1, (ar_no (arr_none nx f) (by decide)).2] at HRe
  have HTB := Lib.hid fun (K : Int) (hK : K = 4 ∨ K = 5) => tab_back K f (fun _ => nx) n hK hWf (fun _ _ => hx) h0 (by omega)
  have HTN := Lib.hid fun (K : Int) (hK : K = 4 ∨ K = 5) => tab_none K f (fun _ => nx) hK
  have hs60 : n ≤ 60 := hn
  clear hi
  go_enter Try.func6, Try.ntmps6
  go_wp2_with (first
    | (go_at_call 8; (with_reducible refine (first_any _).mono ?_); rintro e w1 ⟨rfl, hb1⟩; have B1 := Lib.hid hb1; clear hb1)
    | (go_at_call 21; (with_reducible refine (HPa.out w1 B1.out).mono ?_); rintro e w2 ⟨A2, c2, rfl, ho2, hb2⟩; have O2 := Lib.hid ho2; have B2 := Lib.hid (B1.out.trans (hb2.mono B1.out.size)); clear ho2 hb2)
    | (go_at_call 11; (with_reducible refine (HRa.out w2 _ A2 c2 O2.out).mono ?_); rintro e w3 ⟨A3, c3, rfl, hb3, hi3⟩; have B3 := Lib.hid (B2.out.trans (hb3.mono B2.out.size)); have I3 := Lib.hid (InInts.cong hi3 b4); have X3 := Lib.hid (Blk.new w3 (aL nx A3 n c3) 39); clear hb3 hi3))
  have B3a := Lib.hid (B3.out.alloc B3.out.size (.cells (aL nx A3 n c3).toArray 39))
  go_loopw [11, 12] (fun s i wr => ∃ (k : Nat) (A11 : Option Addr) (c11 : Nat), k ≤ n ∧ s = .slice A11 k c11 ∧ i = .int .i64 (k : Int) ∧ Hid (OwnE 59 2 wr (w3.heap.size + 1) A11 k c11 (two f (fun _ => nx) k)) ∧ Hid (Below (w3.heap.size + 1) (w3.alloc (.cells (aL nx A3 n c3).toArray 39)) wr)) (fun _ i _ => n - (intOf i).toNat)
  case atStart => exact ⟨0, none, 0, Nat.zero_le _, rfl, rfl, OwnE.nil _ _ (by simp), Lib.hid (Below.refl _ _)⟩
  case round =>
    obtain ⟨k, A11, c11, hk, rfl, rfl, ho, hb⟩ := hrel
    have Br := Lib.hid (B3a.out.trans (hb.out.mono (Nat.le_trans B3.out.size (Nat.le_succ _))))
    by_cases hlt : k < n
    · obtain ⟨b, off, rfl, hbl, hc, _⟩ := (HI.out.below Br.out) k hlt
      have HV := Lib.hid (two_succ f (fun _ => nx) k)
      have hsz : w3.heap.size + 1 ≤ wr.heap.size := by have := hb.out.size; simpa using this
      generalize f k = X at *
      go_wp2_with (at_builtin; refine wpList_append_elt slotElt rfl (.tmp 55) (.tmp 62) rfl (w3.heap.size + 1) A11 k c11 _ rfl (ho.out.alloc _) ⟨wr.heap.size, 0, none⟩ 1 1 [.int .u64 X, .int .u64 nx] rfl rfl (Blk.news (Blk.new wr [.int .u64 X, .int .u64 nx] 59)) (by intro u hu; simp at hu; rcases hu with rfl | rfl <;> rfl) (by omega) (by omega) ?_; intro A12 c12 w4 ho4 hb4; have HO4 := Lib.hid ho4; have HB4 := Lib.hid hb4; clear ho4 hb4)
      go_roundw
      case rel =>
        refine ⟨k + 1, A12, c12, by omega, rfl, by go_num, ?_, Lib.hid ((hb.out.alloc hsz _).trans HB4.out)⟩
        rw [HV.out]
        exact HO4
      case measure => simp [intOf]; omega
    · obtain rfl : k = n := by omega
      have HT := Lib.hid (own_in2 ho.out HWf.out HWx.out)
      have X4 := Lib.hid (X3.out.below hb.out (Nat.lt_succ_self _))
      have I4 := Lib.hid ((I3.out.below ((Below.refl w3.heap.size w3).alloc (Nat.le_refl _) (.cells (aL nx A3 k c3).toArray 39))).below (hb.out.mono (Nat.le_of_eq (by simp))))
      clear ho hb X3 I3
      have BN := Lib.hid ((Below.refl wr.heap.size wr).alloc (Nat.le_refl _) (.cells #[.int .i64 4, .int .i64 5] 3))
      rcases hj2 with rfl | rfl
      · obtain ⟨t1, t2, t3, t4, t5⟩ := HTB.out 4 (by decide)
        have hTn := HTN.out 4 (by decide)
        have hT2 := t5 5 (by decide) rfl
        have H4a := HRt.out 4 4
        have H4b := HRt.out 4 5
        have H4c := HRx.out 4
        have H4d := HRt.out 4 6
        have H4e := HRn.out 4
        rw [t1, t2] at H4a
        rw [hT2, taNum_no hT2 (by decide)] at H4b
        rw [t4, (ar_no t4 (by decide)).1, (ar_no t4 (by decide)).2] at H4c
        rw [tab_six, taNum_no (tab_six _ _) (by decide)] at H4d
        rw [hTn, taNum_no hTn (by decide)] at H4e
        have G4a := Lib.hid H4a
        have G4b := Lib.hid H4b
        have G4c := Lib.hid H4c
        have G4d := Lib.hid H4d
        have G4e := Lib.hid H4e
        have HT3 := Lib.hid t3
        clear t1 t2 t3 t4 t5 hTn hT2 H4a H4b H4c H4d H4e
        go_wp2_with (first
          | (go_at_call 25; (with_reducible refine (HNm.out _).mono ?_); rintro e w' ⟨rfl, rfl⟩)
          | (go_at_call 23; (with_reducible refine (HPt.out 4 rfl _ _ _ (HT.out.keep BN.out)).mono ?_); rintro e w5 ⟨A5, c5, rfl, ho5, hb5⟩; have O5 := Lib.hid ho5; have B5 := Lib.hid (BN.out.trans (hb5.mono BN.out.size)); clear ho5 hb5)
          | (go_at_call 13; (with_reducible refine (G4a.out w5 _ A5 c5 O5.out).mono ?_); rintro e w6 ⟨A6, c6, rfl, hb6, hi6⟩; have I6 := Lib.hid (In2.cong hi6 HT3.out); have O6 := Lib.hid (O5.out.kept hb6 (Nat.le_refl _)); have B6 := Lib.hid (B5.out.trans (hb6.mono B5.out.size)); clear hb6 hi6)
          | (go_at_call 13; (with_reducible refine (G4b.out w6 _ A5 c5 O6.out).mono ?_); rintro e w7 ⟨A7, c7, rfl, hb7, _⟩; have I7 := Lib.hid (I6.out.keep hb7); have O7 := Lib.hid (O6.out.kept hb7 (Nat.le_refl _)); have B7 := Lib.hid (B6.out.trans (hb7.mono B6.out.size)); clear hb7)
          | (go_at_call 11; (with_reducible refine (G4c.out w7 _ A5 c5 O7.out).mono ?_); rintro e w8 ⟨A8, c8, rfl, hb8, _⟩; have I8 := Lib.hid ((I7.out.keep hb8).keep ((Below.refl w8.heap.size w8).alloc (Nat.le_refl _) (.cells (aL 0 A8 0 c8).toArray 39))); have O8 := Lib.hid ((O7.out.kept hb8 (Nat.le_refl _)).alloc (.cells (aL 0 A8 0 c8).toArray 39)); have B8 := Lib.hid ((B7.out.trans (hb8.mono B7.out.size)).alloc (Nat.le_trans B7.out.size hb8.size) (.cells (aL 0 A8 0 c8).toArray 39)); clear hb8)
          | (go_at_call 13; (with_reducible refine (G4d.out _ _ A5 c5 O8.out).mono ?_); rintro e w9 ⟨A9, c9, rfl, hb9, _⟩; have I9 := Lib.hid (I8.out.keep hb9); have B9 := Lib.hid (B8.out.trans (hb9.mono B8.out.size)); clear hb9)
          | (go_at_call 21; (with_reducible refine (HPe.out _).mono ?_); rintro e w10 ⟨A10, c10, rfl, ho10, hb10⟩; have O10 := Lib.hid ho10; have I10 := Lib.hid (I9.out.keep (Below.mono hb10 (by simp))); have B10 := Lib.hid (B9.out.trans (hb10.mono (Nat.le_trans B9.out.size (by simp)))); clear ho10 hb10)
          | (go_at_call 11; (with_reducible refine (HRe.out w10 _ A10 c10 O10.out).mono ?_); rintro e w11 ⟨A11', c11', rfl, hb11, _⟩; have I11 := Lib.hid ((I10.out.keep hb11).keep ((Below.refl w11.heap.size w11).alloc (Nat.le_refl _) (.cells (aL 0 A11' 0 c11').toArray 39))); have B11 := Lib.hid ((B10.out.trans (hb11.mono B10.out.size)).alloc (Nat.le_trans B10.out.size hb11.size) (.cells (aL 0 A11' 0 c11').toArray 39)); clear hb11)
          | (go_at_call 23; (with_reducible refine (HPn.out 4 rfl _).mono ?_); rintro e w12 ⟨A12, c12, rfl, ho12, hb12⟩; have O12 := Lib.hid ho12; have I12 := Lib.hid (I11.out.keep hb12); have B12 := Lib.hid (B11.out.trans (hb12.mono B11.out.size)); clear ho12 hb12)
          | (go_at_call 13; (with_reducible refine (G4e.out w12 _ A12 c12 O12.out).mono ?_); rintro e w13 ⟨A13, c13, rfl, hb13, _⟩; have I13 := Lib.hid (I12.out.keep hb13); have B13 := Lib.hid (B12.out.trans (hb13.mono B12.out.size)); clear hb13))
        have T13 := Lib.hid (HT.out.keep B13.out)
        have X13 := Lib.hid (X4.out.below B13.out X4.out.lt)
        have L13 := Lib.hid (I4.out.below B13.out)
        have Q13 := Lib.hid (Br.out.trans (B13.out.mono Br.out.size))
        have HI13 := Lib.hid (HI.out.below Q13.out)
        have HSP := Lib.hid fun (W : World) (h : Below w13.heap.size w13 W) => samePlaces_yes A3 A k c3 cap f W (L13.out.below h) (HI13.out.below h) (by omega)
        clear HT X4 I4 HPt HPn HRt HRx HRn HRe HTB HTN HPa HPe HRa G4a G4b G4c G4d G4e HT3 O2 O5 O6 O7 O8 O10 O12 I6 I7 I8 I9 I10 I11 I12
        go_loopw [27] (fun i wr2 => ∃ q : Nat, q ≤ k ∧ i = .int .i64 (q : Int) ∧ Hid (Below w13.heap.size w13 wr2)) (fun i _ => k - (intOf i).toNat)
        case atStart => exact ⟨0, Nat.zero_le _, rfl, Lib.hid (Below.refl _ _)⟩
        case round =>
          obtain ⟨q, hq, rfl, hbq⟩ := hrel
          by_cases hlt2 : q < k
          · obtain ⟨g1, o1, rfl, hg1, c1, c1', _⟩ := (I13.out.keep hbq.out.drew) q hlt2
            obtain ⟨g2, o2, rfl, hg2, d1, d1', _⟩ := (T13.out.keep hbq.out.drew) q hlt2
            have hq0 : (0 : Int) ≤ (q : Int) := by omega
            have hqk : (q : Int) < (k : Int) := by omega
            have hneq := neq_slot (f q) nx
            generalize f q = X at *
            go_wp2
            go_region
            all_goals
              go_wp2
              go_roundw
              case rel => exact ⟨q + 1, by omega, by go_num, Lib.hid hbq.out.drew⟩
              case measure => simp [intOf]; omega
          · obtain rfl : q = k := by omega
            have Xq := Lib.hid (X13.out.below hbq.out X13.out.lt)
            have x0 := Xq.out.cell (i := 0) rfl
            have x1 := Xq.out.cell (i := 1) rfl
            go_wp2_with (go_at_call 26; (with_reducible refine (HSP.out _ hbq.out).mono ?_); rintro e w14 ⟨rfl, hb14⟩; have Q14 := Lib.hid (Q13.out.trans ((hbq.out.trans (hb14.mono hbq.out.size)).mono Q13.out.size)); clear hb14)
            go_ret
            exact ⟨rfl, Q14.out⟩
      · obtain ⟨t1, t2, t3, t4, t5⟩ := HTB.out 5 (by decide)
        have hTn := HTN.out 5 (by decide)
        have hT2 := t5 4 (by decide) rfl
        have H4a := HRt.out 5 5
        have H4b := HRt.out 5 4
        have H4c := HRx.out 5
        have H4d := HRt.out 5 6
        have H4e := HRn.out 5
        rw [t1, t2] at H4a
        rw [hT2, taNum_no hT2 (by decide)] at H4b
        rw [t4, (ar_no t4 (by decide)).1, (ar_no t4 (by decide)).2] at H4c
        rw [tab_six, taNum_no (tab_six _ _) (by decide)] at H4d
        rw [hTn, taNum_no hTn (by decide)] at H4e
        have G4a := Lib.hid H4a
        have G4b := Lib.hid H4b
        have G4c := Lib.hid H4c
        have G4d := Lib.hid H4d
        have G4e := Lib.hid H4e
        have HT3 := Lib.hid t3
        clear t1 t2 t3 t4 t5 hTn hT2 H4a H4b H4c H4d H4e
        go_wp2_with (first
          | (go_at_call 25; (with_reducible refine (HNm.out _).mono ?_); rintro e w' ⟨rfl, rfl⟩)
          | (go_at_call 23; (with_reducible refine (HPt.out 5 rfl _ _ _ (HT.out.keep BN.out)).mono ?_); rintro e w5 ⟨A5, c5, rfl, ho5, hb5⟩; have O5 := Lib.hid ho5; have B5 := Lib.hid (BN.out.trans (hb5.mono BN.out.size)); clear ho5 hb5)
          | (go_at_call 13; (with_reducible refine (G4a.out w5 _ A5 c5 O5.out).mono ?_); rintro e w6 ⟨A6, c6, rfl, hb6, hi6⟩; have I6 := Lib.hid (In2.cong hi6 HT3.out); have O6 := Lib.hid (O5.out.kept hb6 (Nat.le_refl _)); have B6 := Lib.hid (B5.out.trans (hb6.mono B5.out.size)); clear hb6 hi6)
          | (go_at_call 13; (with_reducible refine (G4b.out w6 _ A5 c5 O6.out).mono ?_); rintro e w7 ⟨A7, c7, rfl, hb7, _⟩; have I7 := Lib.hid (I6.out.keep hb7); have O7 := Lib.hid (O6.out.kept hb7 (Nat.le_refl _)); have B7 := Lib.hid (B6.out.trans (hb7.mono B6.out.size)); clear hb7)
          | (go_at_call 11; (with_reducible refine (G4c.out w7 _ A5 c5 O7.out).mono ?_); rintro e w8 ⟨A8, c8, rfl, hb8, _⟩; have I8 := Lib.hid ((I7.out.keep hb8).keep ((Below.refl w8.heap.size w8).alloc (Nat.le_refl _) (.cells (aL 0 A8 0 c8).toArray 39))); have O8 := Lib.hid ((O7.out.kept hb8 (Nat.le_refl _)).alloc (.cells (aL 0 A8 0 c8).toArray 39)); have B8 := Lib.hid ((B7.out.trans (hb8.mono B7.out.size)).alloc (Nat.le_trans B7.out.size hb8.size) (.cells (aL 0 A8 0 c8).toArray 39)); clear hb8)
          | (go_at_call 13; (with_reducible refine (G4d.out _ _ A5 c5 O8.out).mono ?_); rintro e w9 ⟨A9, c9, rfl, hb9, _⟩; have I9 := Lib.hid (I8.out.keep hb9); have B9 := Lib.hid (B8.out.trans (hb9.mono B8.out.size)); clear hb9)
          | (go_at_call 21; (with_reducible refine (HPe.out _).mono ?_); rintro e w10 ⟨A10, c10, rfl, ho10, hb10⟩; have O10 := Lib.hid ho10; have I10 := Lib.hid (I9.out.keep (Below.mono hb10 (by simp))); have B10 := Lib.hid (B9.out.trans (hb10.mono (Nat.le_trans B9.out.size (by simp)))); clear ho10 hb10)
          | (go_at_call 11; (with_reducible refine (HRe.out w10 _ A10 c10 O10.out).mono ?_); rintro e w11 ⟨A11', c11', rfl, hb11, _⟩; have I11 := Lib.hid ((I10.out.keep hb11).keep ((Below.refl w11.heap.size w11).alloc (Nat.le_refl _) (.cells (aL 0 A11' 0 c11').toArray 39))); have B11 := Lib.hid ((B10.out.trans (hb11.mono B10.out.size)).alloc (Nat.le_trans B10.out.size hb11.size) (.cells (aL 0 A11' 0 c11').toArray 39)); clear hb11)
          | (go_at_call 23; (with_reducible refine (HPn.out 5 rfl _).mono ?_); rintro e w12 ⟨A12, c12, rfl, ho12, hb12⟩; have O12 := Lib.hid ho12; have I12 := Lib.hid (I11.out.keep hb12); have B12 := Lib.hid (B11.out.trans (hb12.mono B11.out.size)); clear ho12 hb12)
          | (go_at_call 13; (with_reducible refine (G4e.out w12 _ A12 c12 O12.out).mono ?_); rintro e w13 ⟨A13, c13, rfl, hb13, _⟩; have I13 := Lib.hid (I12.out.keep hb13); have B13 := Lib.hid (B12.out.trans (hb13.mono B12.out.size)); clear hb13))
        have T13 := Lib.hid (HT.out.keep B13.out)
        have X13 := Lib.hid (X4.out.below B13.out X4.out.lt)
        have L13 := Lib.hid (I4.out.below B13.out)
        have Q13 := Lib.hid (Br.out.trans (B13.out.mono Br.out.size))
        have HI13 := Lib.hid (HI.out.below Q13.out)
        have HSP := Lib.hid fun (W : World) (h : Below w13.heap.size w13 W) => samePlaces_yes A3 A k c3 cap f W (L13.out.below h) (HI13.out.below h) (by omega)
        clear HT X4 I4 HPt HPn HRt HRx HRn HRe HTB HTN HPa HPe HRa G4a G4b G4c G4d G4e HT3 O2 O5 O6 O7 O8 O10 O12 I6 I7 I8 I9 I10 I11 I12
        go_loopw [27] (fun i wr2 => ∃ q : Nat, q ≤ k ∧ i = .int .i64 (q : Int) ∧ Hid (Below w13.heap.size w13 wr2)) (fun i _ => k - (intOf i).toNat)
        case atStart => exact ⟨0, Nat.zero_le _, rfl, Lib.hid (Below.refl _ _)⟩
        case round =>
          obtain ⟨q, hq, rfl, hbq⟩ := hrel
          by_cases hlt2 : q < k
          · obtain ⟨g1, o1, rfl, hg1, c1, c1', _⟩ := (I13.out.keep hbq.out.drew) q hlt2
            obtain ⟨g2, o2, rfl, hg2, d1, d1', _⟩ := (T13.out.keep hbq.out.drew) q hlt2
            have hq0 : (0 : Int) ≤ (q : Int) := by omega
            have hqk : (q : Int) < (k : Int) := by omega
            have hneq := neq_slot (f q) nx
            generalize f q = X at *
            go_wp2
            go_region
            all_goals
              go_wp2
              go_roundw
              case rel => exact ⟨q + 1, by omega, by go_num, Lib.hid hbq.out.drew⟩
              case measure => simp [intOf]; omega
          · obtain rfl : q = k := by omega
            have Xq := Lib.hid (X13.out.below hbq.out X13.out.lt)
            have x0 := Xq.out.cell (i := 0) rfl
            have x1 := Xq.out.cell (i := 1) rfl
            go_wp2_with (go_at_call 26; (with_reducible refine (HSP.out _ hbq.out).mono ?_); rintro e w14 ⟨rfl, hb14⟩; have Q14 := Lib.hid (Q13.out.trans ((hbq.out.trans (hb14.mono hbq.out.size)).mono Q13.out.size)); clear hb14)
            go_ret
            exact ⟨rfl, Q14.out⟩

theorem walk (a0 : Int) (a1 : Option Addr) (len1 cap1 : Nat) (z1 : List Int) (a2 : Int) (w : World) (w0 : (Lit.int .u64 a0).wf = true) (w1 : IsRow .u64 w a1 len1 cap1 z1) (w2 : (Lit.int .i64 a2).wf = true) :
    Calls Try.prog 6 #[.int .u64 a0, .slice a1 len1 cap1, .int .i64 a2] w fun e w' => e = .returned (.bool true) ∧ Below w.heap.size w w' := by
  obtain ⟨hi, _, _⟩ := ints_in w1
  by_cases h1 : 60 < len1
  · have d1 : (60 : Int) < (len1 : Int) := by omega
    have d3 : decide ((60 : Int) < (len1 : Int)) = true := by simp; omega
    clear hi w1
    go_enter Try.func6, Try.ntmps6
    go_wp2_with (go_at_call 8; (with_reducible refine (first_any _).mono ?_); rintro e w1 ⟨rfl, hb1⟩; have HB1 := Lib.hid hb1; clear hb1)
    go_ret
    exact ⟨rfl, HB1.out⟩
  by_cases h2 : len1 = 0
  · subst h2
    clear hi w1
    go_enter Try.func6, Try.ntmps6
    go_wp2_with (go_at_call 8; (with_reducible refine (first_any _).mono ?_); rintro e w1 ⟨rfl, hb1⟩; have HB1 := Lib.hid hb1; clear hb1)
    go_ret
    exact ⟨rfl, HB1.out⟩
  · obtain ⟨j, hj, hj2⟩ := below_nat a2 2 (by decide)
    exact walk_main a0 a1 len1 cap1 _ a2 w (bounds_u64 w0) hi (by omega) (by omega) j hj (by omega)
end Go.Proofs.Ytoklhjooldfcfaa.EntryArraysW
