/-
  Texts beneath the proof, one behind the other.
-/
import Derived.Shelf.SlSortCmp.QuietGrown
import Derived.Test.YtldkmobncmfodaaGreatQ28
import Derived.Test.YtldkmobncmfodaaGreatQ29

/-
  What the document's own List answers.
-/
namespace Go.Proofs.YtldkmobncmfodaaGreat.Pr2
open Go.ChangeShapes Go.WideShapes Go.ChangeAt Go.RowKit
open Bytes8 Blk8 Own8 OwnE Fa Fb Fc Fo In8 Pr8 Pa8 Ps8 Pl8 Pq8 Pi8
set_option linter.unusedVariables false
set_option maxRecDepth 100000
set_option linter.unusedSimpArgs false

theorem rjoin_code (n v : List Int) (hn : AllB n) (hv : AllB v) (hmax : n.length ≤ 9223372036854775807) (w : World) :
    Calls Tryz.prog 193 #[.agg #[.string (T n), .string (T v)]] w fun e w' => ∃ (A : Option Addr) (m c : Nat), e = .returned (.tuple #[.slice A m c, .int .i64 (flawI n v)]) ∧ Below w.heap.size w w' :=
  (rjoin_any n v hn hv hmax w).mono fun e w' ⟨A, c, h1, h2, h3⟩ => ⟨A, _, c, h1, h3.below⟩
theorem less_pr {p q : PR} (hp : okP p) (hq : okP q) : Op.bytesLess (T (pay p.1 p.2)).toList (T (pay q.1 q.2)).toList = ltP p q := bytesLess_T (pay_all hp.1 hp.2.1) (pay_all hq.1 hq.2.1)
theorem blank_cells : cellsP [nil2] = [.string { data := #[] }, .string { data := #[] }] := by rw [T_nil]; rfl

theorem ownP_new {w : World} {base n c : Nat} {A : Option Addr} {l : List PR} (h : OwnP w base A n c l) : ∀ b off, A = some ⟨b, off, none⟩ → 0 < l.length → base ≤ b := fun b off e h0 => by
  obtain ⟨g, e2, h1, _, _⟩ := OwnE.cell h.2.2 (i := 0) (by rw [cellsP_len]; omega)
  rw [e] at e2
  injection e2 with e2
  injection e2 with e3 e4
  omega
set_option maxHeartbeats 16000000 in
set_option maxRecDepth 100000 in
theorem rlist_new (a : Option Addr) (l : List PR) (len cap : Nat) (w : World) (hP : Prs w a l) (hL : l.length = len) (hmax : len ≤ 100000) :
    Calls Tryz.prog 145 #[.slice a len cap] w (ListedN l w) := by
  by_cases h0 : len = 0
  · subst h0
    have he : listE l = 16 := by unfold listE; rw [if_pos (List.eq_nil_of_length_eq_zero hL)]
    have HE := Lib.hid he
    clear he hP hL
    go_enter Tryz.func145, Tryz.ntmps145
    go_wp2
    go_ret2
    exact listedN_none HE.out (by decide) (Below.refl _ _)
  have h0b : ((len : Int) == 0) = false := by simp; omega
  have hne : l ≠ [] := fun e => h0 (by rw [← hL, e]; rfl)
  have HP := Lib.hid hP
  have HL := Lib.hid hL
  have HOk := Lib.hid hP.1
  have HF := Lib.hid fun k w => rjoin_code (l.getD k nil2).1 (l.getD k nil2).2 (hP.1.at_ k).1 (hP.1.at_ k).2.1 (hP.1.at_ k).2.2.1 w
  have HAt := Lib.hid fun k h1 h2 h3 => (by
    have e := codeL_at l k h1 h2 h3
    unfold listE
    rw [if_neg hne, if_neg (by rw [e]; exact h3), e] : listE l = flawI (l.getD k nil2).1 (l.getD k nil2).2)
  have HAll := Lib.hid (fun (h : ∀ j, j < len → flawI (l.getD j nil2).1 (l.getD j nil2).2 = 0) => (by
    have hf : ∀ p ∈ l, flawI p.1 p.2 = 0 := fun p hp => by
      obtain ⟨i, hi, rfl⟩ := mem_getD hp
      exact h i (by omega)
    unfold listE
    rw [if_neg hne, codeL_zero l hf, if_pos rfl] : listE l = (if (ded l).length ≤ 16 then 0 else 21)))
  have hmx : Tryz.prog.follows .mixedOrders = true := by kernel_rfl
  clear hP hL h0 hne
  go_enter Tryz.func145, Tryz.ntmps145
  go_wp2
  go_loopw [4, 5] (fun s i wr => ∃ (k n : Nat) (A : Option Addr) (c : Nat), k ≤ len ∧ i = .int .i64 (k : Int) ∧ s = .slice A n c ∧ n ≤ k ∧ Hid (OwnP wr w.heap.size A n c (rowL l k)) ∧ Hid (∀ j, j < k → flawI (l.getD j nil2).1 (l.getD j nil2).2 = 0) ∧ Hid (Below w.heap.size w wr)) (fun _ i _ => len - (intOf i).toNat)
  case atStart => exact ⟨0, 0, none, 0, by omega, rfl, rfl, by omega, (by rw [rowL_zero]; exact Lib.hid (OwnP.nil w _ (Nat.le_refl _))), Lib.hid (fun j hj => absurd hj (by omega)), Lib.hid (Below.refl _ _)⟩
  case round =>
    obtain ⟨i, n, A, c, hi, rfl, rfl, hn, hO, hall, hB⟩ := hrel
    rcases Nat.lt_or_ge i len with hlt | hge
    · obtain ⟨b, off, rfl, hbl, hc0, hc1⟩ := (HP.out.below hB.out).2 i (by have := HL.out; omega)
      have hin : (i : Int) < (len : Int) := by omega
      have HFk := Lib.hid (HF.out i)
      by_cases hf : flawI (l.getD i nil2).1 (l.getD i nil2).2 = 0
      · have hall2 := Lib.hid (fun j (hj : j < i + 1) => (by
          rcases Nat.lt_or_ge j i with h1 | h1
          · exact hall.out j h1
          · obtain rfl : j = i := by omega
            exact hf : flawI (l.getD j nil2).1 (l.getD j nil2).2 = 0))
        have HR := Lib.hid (fun t (ht : t < i + 1) => (⟨(HOk.out.at_ t).1, (HOk.out.at_ t).2.1, hall2.out t ht⟩ : okR (l.getD t nil2)))
        have HRow : Hid (∀ t, t < n → okR ((rowL l i).getD t nil2)) := Lib.hid fun t ht => by
          have hm : (rowL l i).getD t nil2 ∈ rowL l i := getD_mem' (by rw [hO.out.2.1]; exact ht)
          exact rowL_okR (fun t ht => HR.out t (by omega)) (by have := HL.out; omega) _ ((list_mem _ _).1 hm)
        rw [hf] at HFk
        clear hf hall
        generalize hX1 : T (l.getD i nil2).1 = X1 at *
        generalize hX2 : T (l.getD i nil2).2 = X2 at *
        have HX1 := Lib.hid hX1
        have HX2 := Lib.hid hX2
        clear hX1 hX2
        go_wp2_with (go_at_call 193; (with_reducible refine (HFk.out _).mono ?_); rintro e w2 ⟨A6, m6, c6, rfl, hb⟩; have O2 := Lib.hid (hO.out.kept hb (Nat.le_refl _)); have B2 := Lib.hid (hB.out.trans (hb.mono hB.out.size)); clear hb)
        clear hO hB hc0 hc1 hbl
        go_loopw [8] (fun s wr => ∃ k : Nat, k ≤ n ∧ s = .int .i64 (k : Int) ∧ Hid (∀ t, t < k → ltP ((rowL l i).getD t nil2) (l.getD i nil2) = true) ∧ Hid (OwnP wr w.heap.size A n c (rowL l i)) ∧ Hid (Below w.heap.size w wr)) (fun s _ => n - (intOf s).toNat)
        case atStart => exact ⟨0, by omega, rfl, Lib.hid (fun t ht => absurd ht (by omega)), O2, B2⟩
        case round =>
          obtain ⟨k, hk, rfl, hlow, hO, hB⟩ := hrel
          clear O2 B2
          obtain ⟨b', off', eb, hbl, hc0, hc1⟩ := (HP.out.below hB.out).2 i (by have := HL.out; omega)
          simp at eb
          obtain ⟨rfl, rfl⟩ := eb
          rw [HX1.out] at hc0
          rw [HX2.out] at hc1
          rcases Nat.lt_or_ge k n with hkn | hkn
          · obtain ⟨g, rfl⟩ := own_some hO.out (by omega)
            obtain ⟨hd0, hd1, hgl, hgb⟩ := Pi8.OwnP.cellAt hO.out k hkn
            have hin2 : (k : Int) < (n : Int) := by omega
            have hd2 : decide (k < n) = true := decide_eq_true hkn
            have r1 := HRow.out k hkn
            have r2 := HR.out i (by omega)
            obtain ⟨q1, q2⟩ := flaw_len r1.2.2
            obtain ⟨q3, q4⟩ := flaw_len r2.2.2
            have hbl2 := less_pr (okR_okP r1) (okR_okP r2)
            have HY1 := Lib.hid fun w => rpayload_grew ((rowL l i).getD k nil2).1 ((rowL l i).getD k nil2).2 (by omega) w
            have HY2 := Lib.hid fun w => rpayload_grew (l.getD i nil2).1 (l.getD i nil2).2 (by omega) w
            have heq := eql_pr (okR_okP r1) (okR_okP r2)
            have HTot := Lib.hid (fun h => ltP_total r1 r2 h)
            have HOx := Lib.hid (okR_okP r2)
            dsimp only [pv] at HY1 HY2
            rw [HX1.out, HX2.out] at HY2 heq
            have p0 := cell_grown hgl hd0
            have p1 := cell_grown hgl hd1
            have x0 := cell_grown hbl hc0
            have x1 := cell_grown hbl hc1
            have HB := Lib.hid hB.out
            clear hd0 hd1 hc0 hc1 q1 q2 q3 q4 r1 r2
            generalize T (pay ((rowL l i).getD k nil2).1 ((rowL l i).getD k nil2).2) = S1 at *
            generalize T (pay (l.getD i nil2).1 (l.getD i nil2).2) = S2 at *
            generalize hR1 : T ((rowL l i).getD k nil2).1 = R1 at *
            generalize hR2 : T ((rowL l i).getD k nil2).2 = R2 at *
            clear hR1 hR2
            have K1 : Hid (∀ q os, Calls Tryz.prog 194 #[.agg #[.string R1, .string R2]] (Sort.grow (wr.drewN q) os) fun e w' => e = .returned (.string S1) ∧ ∃ q' os', w' = Sort.grow ((Sort.grow (wr.drewN q) os).drewN q') os') := Lib.hid fun q os => HY1.out _
            have K2 : Hid (∀ q os, Calls Tryz.prog 194 #[.agg #[.string X1, .string X2]] (Sort.grow (wr.drewN q) os) fun e w' => e = .returned (.string S2) ∧ ∃ q' os', w' = Sort.grow ((Sort.grow (wr.drewN q) os).drewN q') os') := Lib.hid fun q os => HY2.out _
            clear HY1 HY2
            cases hz : ltP ((rowL l i).getD k nil2) (l.getD i nil2) with
            | true =>
              rw [hz] at hbl2
              have hlow2 := Lib.hid (fun t (ht : t < k + 1) => (by
                rcases Nat.lt_or_ge t k with h1 | h1
                · exact hlow.out t h1
                · obtain rfl : t = k := by omega
                  exact hz : ltP ((rowL l i).getD t nil2) (l.getD i nil2) = true))
              clear hz hlow
              go_wp2_with fail
              go_quiet_grown (first | (go_at_call 194; with_reducible refine Calls.grown_of (K1.out _ _)) | (go_at_call 194; with_reducible refine Calls.grown_of (K2.out _ _)))
              have HG := Lib.hid (Grew.below (w := wr) ⟨nq, osq, rfl⟩)
              have O3 := Lib.hid (hO.out.kept HG.out (Nat.le_refl _))
              have B3 := Lib.hid (HB.out.trans (Below.mono HG.out HB.out.size))
              go_wp2
              go_round
              case rel => exact ⟨k + 1, by omega, by go_num, hlow2, O3, B3⟩
              case measure => simp [intOf]; omega
            | false =>
              rw [hz] at hbl2
              have HZ := Lib.hid hz
              clear hz
              go_wp2_with fail
              go_quiet_grown (first | (go_at_call 194; with_reducible refine Calls.grown_of (K1.out _ _)) | (go_at_call 194; with_reducible refine Calls.grown_of (K2.out _ _)))
              have HG := Lib.hid (Grew.below (w := wr) ⟨nq, osq, rfl⟩)
              have O3 := Lib.hid (hO.out.kept HG.out (Nat.le_refl _))
              have B3 := Lib.hid (HB.out.trans (Below.mono HG.out HB.out.size))
              have y0 := p0 nq osq
              have y1 := p1 nq osq
              have z0 := x0 nq osq
              have z1 := x1 nq osq
              clear K1 K2 p0 p1 x0 x1 HG hO hB HB
              generalize Sort.grow (wr.drewN nq) osq = W3 at *
              by_cases he : (rowL l i).getD k nil2 = l.getD i nil2
              · have hm : l.getD i nil2 ∈ rowL l i := by rw [← he]; exact getD_mem' (by rw [O3.out.2.1]; exact hkn)
                have HTh := Lib.hid (rowL_there (by have := HL.out; omega) HR.out hm)
                rw [decide_eq_true he] at heq
                clear he hm
                go_wp2_with fail
                go_quiet (fail)
                go_wp2
                go_round
                case rel => exact ⟨i + 1, n, _, c, by omega, by go_num, rfl, by omega, by rw [HTh.out]; exact O3, hall2, Lib.hid (below_drewN B3.out _)⟩
                case measure => simp [intOf]; omega
              · have hxl : ltP (l.getD i nil2) ((rowL l i).getD k nil2) = true := by
                  cases h : ltP (l.getD i nil2) ((rowL l i).getD k nil2) with
                  | true => rfl
                  | false => exact absurd (HTot.out HZ.out h) he
                have HIn := Lib.hid (rowL_ins (by have := HL.out; omega) HR.out (by rw [O3.out.2.1]; exact hk) hlow.out (fun _ => hxl))
                rw [decide_eq_false he] at heq
                clear he hxl HTot HZ hlow
                go_wp2_with fail
                go_quiet (fail)
                have O4 : Hid (OwnP (W3.drewN nq) w.heap.size (some ⟨g, 0, none⟩) n c (rowL l i)) := O3
                have B4 : Hid (Below w.heap.size w (W3.drewN nq)) := Lib.hid (below_drewN B3.out _)
                clear O3 B3 y0 y1 z0 z1
                generalize W3.drewN nq = W4 at *
                go_wp2_with (at_builtin; refine wpList_append_elt pairElt rfl (.tmp 64) (.tmp 66) rfl w.heap.size _ n c (cellsP (rowL l i)) rfl (O4.out.2.2.alloc (.cells #[.string { data := #[] }, .string { data := #[] }] 220)) ⟨W4.heap.size, 0, none⟩ 1 1 [.string { data := #[] }, .string { data := #[] }] rfl rfl (Blk.news (Blk.new W4 [.string { data := #[] }, .string { data := #[] }] 220)) (by intro u hu; simp at hu; subst hu; rfl) (by omega) (by omega) ?_; intro A7 c7 w7 ho7 hbel7; have O7 := Lib.hid (⟨fun q hq => (by
                  rcases List.mem_append.1 hq with h | h
                  · exact O4.out.1 q h
                  · simp at h; subst h; exact ⟨(fun x hx => by cases hx), (fun x hx => by cases hx), Nat.zero_le _, Nat.zero_le _⟩), by rw [List.length_append, O4.out.2.1]; rfl, by rw [cellsP_app, blank_cells]; exact ho7⟩ : OwnP w7 w.heap.size A7 (n + 1) c7 (rowL l i ++ [nil2])); have B7 := Lib.hid ((B4.out.alloc B4.out.size (.cells #[.string { data := #[] }, .string { data := #[] }] 220)).trans hbel7); clear ho7 hbel7)
                have HLr := Lib.hid O4.out.2.1
                have HSt0 := Lib.hid (show shiftL (rowL l i) n = rowL l i ++ [nil2] by rw [← HLr.out]; exact shiftL_start _)
                clear O4 B4
                obtain ⟨g7, rfl⟩ := own_some O7.out (by omega)
                go_loopw [9] (fun s wr => ∃ j : Nat, k ≤ j ∧ j ≤ n ∧ s = .int .i64 (j : Int) ∧ Hid (OwnP wr w.heap.size (some ⟨g7, 0, none⟩) (n + 1) c7 (shiftL (rowL l i) j)) ∧ Hid (Below w.heap.size w wr)) (fun s _ => (intOf s).toNat)
                case atStart => exact ⟨n, hk, Nat.le_refl _, by go_num, (by rw [HSt0.out]; exact O7), B7⟩
                case round =>
                  obtain ⟨j, hkj, hjn, rfl, hO8, hB8⟩ := hrel
                  clear O7 B7
                  rcases Nat.lt_or_ge k j with hlt8 | hge8
                  · obtain ⟨j, rfl⟩ : ∃ j', j = j' + 1 := ⟨j - 1, by omega⟩
                    have e : ((j + 1 : Nat) : Int) = (j : Int) + 1 := by omega
                    have hin8 : (k : Int) < (j : Int) + 1 := by omega
                    have hj1 : (j : Int) + 1 < (n : Int) + 1 := by omega
                    have hj0 : (j : Int) < (n : Int) + 1 := by omega
                    have hjp : (0 : Int) ≤ (j : Int) + 1 := by omega
                    have hjt : ((j : Int) + 1).toNat = j + 1 := by omega
                    obtain ⟨v0, v1, hgl8, hgb8⟩ := Pi8.OwnP.cellAt hO8.out j (by omega)
                    obtain ⟨u0, u1, _, _⟩ := Pi8.OwnP.cellAt hO8.out (j + 1) (by omega)
                    have hfz := Pi8.OwnP.frozen hO8.out
                    have HSt := Lib.hid (shiftL_step (rowL l i) j (by rw [HLr.out]; omega))
                    have HOj := Lib.hid (hO8.out.1.at_ j)
                    have HSet := Lib.hid (Pi8.OwnP.set hO8.out (j + 1) ((shiftL (rowL l i) (j + 1)).getD j nil2) HOj.out (by omega))
                    rw [HSt.out] at HSet
                    rw [e]
                    clear e HSt HOj
                    generalize T ((shiftL (rowL l i) (j + 1)).getD j nil2).1 = V1 at *
                    generalize T ((shiftL (rowL l i) (j + 1)).getD j nil2).2 = V2 at *
                    generalize T ((shiftL (rowL l i) (j + 1)).getD (j + 1) nil2).1 = U1 at *
                    generalize T ((shiftL (rowL l i) (j + 1)).getD (j + 1) nil2).2 = U2 at *
                    go_wp2
                    go_round
                    case rel => exact ⟨j, by omega, by omega, by go_num, HSet, Lib.hid ((hB8.out.setCell (p := ⟨g7, (j + 1) * 2, none⟩) hgb8 _).setCell (p := ⟨g7, (j + 1) * 2 + 1, none⟩) hgb8 _)⟩
                    case measure => simp [intOf] <;> omega
                  · obtain rfl : j = k := by omega
                    obtain ⟨b9, off9, eb9, hbl9, hs0, hs1⟩ := (HP.out.below hB8.out).2 i (by have := HL.out; omega)
                    simp at eb9
                    obtain ⟨rfl, rfl⟩ := eb9
                    rw [HX1.out] at hs0
                    rw [HX2.out] at hs1
                    obtain ⟨u0, u1, hgl8, hgb8⟩ := Pi8.OwnP.cellAt hO8.out j (by omega)
                    have hfz := Pi8.OwnP.frozen hO8.out
                    have hj1 : (j : Int) < (n : Int) + 1 := by omega
                    have HSet := Lib.hid (Pi8.OwnP.set hO8.out j (l.getD i nil2) HOx.out (by omega))
                    rw [shiftL_end _ _ _ (by rw [HLr.out]; exact hjn), HIn.out, HX1.out, HX2.out] at HSet
                    generalize T ((shiftL (rowL l i) j).getD j nil2).1 = U1 at *
                    generalize T ((shiftL (rowL l i) j).getD j nil2).2 = U2 at *
                    go_wp2
                    go_round
                    case rel => exact ⟨i + 1, n + 1, _, c7, by omega, by go_num, rfl, by omega, HSet, hall2, Lib.hid ((hB8.out.setCell (p := ⟨g7, j * 2, none⟩) hgb8 _).setCell (p := ⟨g7, j * 2 + 1, none⟩) hgb8 _)⟩
                    case measure => simp [intOf]; omega
          · have hnot : ¬ (k : Int) < (n : Int) := by omega
            have hd2 : decide (k < n) = false := decide_eq_false (by omega)
            have hd3 : ¬ k < n := by omega
            have HIn := Lib.hid (rowL_ins (by have := HL.out; omega) HR.out (by rw [hO.out.2.1]; exact hk) hlow.out (fun h => absurd h (by rw [hO.out.2.1]; omega)))
            have HOx := Lib.hid (okR_okP (HR.out i (by omega)))
            clear hlow hbl hc0 hc1
            go_wp2_with fail
            go_quiet (fail)
            obtain ⟨nq1, hnq⟩ : ∃ x, x = nq := ⟨_, rfl⟩
            rw [← hnq]
            clear hnq nq
            go_wp2_with fail
            go_quiet (fail)
            have O4 : Hid (OwnP ((wr.drewN nq1).drewN nq) w.heap.size A n c (rowL l i)) := hO
            have B4 : Hid (Below w.heap.size w ((wr.drewN nq1).drewN nq)) := Lib.hid (below_drewN (below_drewN hB.out _) _)
            clear hO hB
            generalize (wr.drewN nq1).drewN nq = W4 at *
            go_wp2_with (at_builtin; refine wpList_append_elt pairElt rfl (.tmp 64) (.tmp 66) rfl w.heap.size _ n c (cellsP (rowL l i)) rfl (O4.out.2.2.alloc (.cells #[.string { data := #[] }, .string { data := #[] }] 220)) ⟨W4.heap.size, 0, none⟩ 1 1 [.string { data := #[] }, .string { data := #[] }] rfl rfl (Blk.news (Blk.new W4 [.string { data := #[] }, .string { data := #[] }] 220)) (by intro u hu; simp at hu; subst hu; rfl) (by omega) (by omega) ?_; intro A7 c7 w7 ho7 hbel7; have O7 := Lib.hid (⟨fun q hq => (by
              rcases List.mem_append.1 hq with h | h
              · exact O4.out.1 q h
              · simp at h; subst h; exact ⟨(fun x hx => by cases hx), (fun x hx => by cases hx), Nat.zero_le _, Nat.zero_le _⟩), by rw [List.length_append, O4.out.2.1]; rfl, by rw [cellsP_app, blank_cells]; exact ho7⟩ : OwnP w7 w.heap.size A7 (n + 1) c7 (rowL l i ++ [nil2])); have B7 := Lib.hid ((B4.out.alloc B4.out.size (.cells #[.string { data := #[] }, .string { data := #[] }] 220)).trans hbel7); clear ho7 hbel7)
            have HLr := Lib.hid O4.out.2.1
            have HSt0 := Lib.hid (show shiftL (rowL l i) n = rowL l i ++ [nil2] by rw [← HLr.out]; exact shiftL_start _)
            clear O4 B4
            obtain ⟨g7, rfl⟩ := own_some O7.out (by omega)
            go_loopw [9] (fun s wr => ∃ j : Nat, k ≤ j ∧ j ≤ n ∧ s = .int .i64 (j : Int) ∧ Hid (OwnP wr w.heap.size (some ⟨g7, 0, none⟩) (n + 1) c7 (shiftL (rowL l i) j)) ∧ Hid (Below w.heap.size w wr)) (fun s _ => (intOf s).toNat)
            case atStart => exact ⟨n, hk, Nat.le_refl _, by go_num, (by rw [HSt0.out]; exact O7), B7⟩
            case round =>
              obtain ⟨j, hkj, hjn, rfl, hO8, hB8⟩ := hrel
              clear O7 B7
              rcases Nat.lt_or_ge k j with hlt8 | hge8
              · exfalso; omega
              · obtain rfl : j = k := by omega
                obtain ⟨b9, off9, eb9, hbl9, hs0, hs1⟩ := (HP.out.below hB8.out).2 i (by have := HL.out; omega)
                simp at eb9
                obtain ⟨rfl, rfl⟩ := eb9
                rw [HX1.out] at hs0
                rw [HX2.out] at hs1
                obtain ⟨u0, u1, hgl8, hgb8⟩ := Pi8.OwnP.cellAt hO8.out j (by omega)
                have hfz := Pi8.OwnP.frozen hO8.out
                have hj1 : (j : Int) < (n : Int) + 1 := by omega
                have HSet := Lib.hid (Pi8.OwnP.set hO8.out j (l.getD i nil2) HOx.out (by omega))
                rw [shiftL_end _ _ _ (by rw [HLr.out]; exact hjn), HIn.out, HX1.out, HX2.out] at HSet
                generalize T ((shiftL (rowL l i) j).getD j nil2).1 = U1 at *
                generalize T ((shiftL (rowL l i) j).getD j nil2).2 = U2 at *
                go_wp2
                go_round
                case rel => exact ⟨i + 1, n + 1, _, c7, by omega, by go_num, rfl, by omega, HSet, hall2, Lib.hid ((hB8.out.setCell (p := ⟨g7, j * 2, none⟩) hgb8 _).setCell (p := ⟨g7, j * 2 + 1, none⟩) hgb8 _)⟩
                case measure => simp [intOf]; omega
      · have hER := Lib.hid (HAt.out i (by have := HL.out; omega) hall.out hf)
        have hfb : (flawI (l.getD i nil2).1 (l.getD i nil2).2 != 0) = true := by simpa using hf
        have hf0 := hf
        clear hall hf
        generalize T (l.getD i nil2).1 = E1 at *
        generalize T (l.getD i nil2).2 = E2 at *
        generalize flawI (l.getD i nil2).1 (l.getD i nil2).2 = F at *
        have HF0 := Lib.hid hf0
        clear hf0
        go_wp2_with (go_at_call 193; (with_reducible refine (HFk.out _).mono ?_); rintro e w2 ⟨A6, m6, c6, rfl, hb⟩; have B2 := Lib.hid (hB.out.trans (hb.mono hB.out.size)); clear hb)
        go_ret2
        exact listedN_none hER.out HF0.out B2.out
    · obtain rfl : i = len := by omega
      have ht : l.take i = l := List.take_of_length_le (by have := HL.out; omega)
      have hrow : rowL l i = sortP (ded l) := by unfold rowL; rw [ht]
      have hE := HAll.out hall.out
      have hlen := hO.out.2.1
      rw [hrow] at hO hlen
      rw [sortP_len] at hlen
      clear ht hall hrow
      by_cases h16 : (ded l).length ≤ 16
      · rw [if_pos h16] at hE
        have HE := Lib.hid hE
        have HLs := Lib.hid (show listL l = sortP (ded l) from if_pos hE)
        have h16n : n ≤ 16 := by omega
        have HLn := Lib.hid hlen
        clear hE hlen
        go_wp2
        go_ret2
        unfold ListedN
        rw [HLs.out, HE.out, sortP_len, HLn.out]
        exact ⟨_, _, rfl, hO.out.prs, hB.out, fun b off e h0 => ownP_new hO.out b off e (by rw [sortP_len, HLn.out]; exact h0)⟩
      · rw [if_neg h16] at hE
        have HE := Lib.hid hE
        have h16n : 16 < n := by omega
        clear hE hlen
        go_wp2
        go_ret2
        exact listedN_none HE.out (by decide) hB.out
end Go.Proofs.YtldkmobncmfodaaGreat.Pr2
