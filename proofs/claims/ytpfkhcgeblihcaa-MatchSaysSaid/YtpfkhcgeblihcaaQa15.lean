/-
  Texts beneath the proof, one behind the other.
-/
import Derived.Deep.CutRange
import Derived.Test.YtpfkhcgeblihcaaQa13
import Derived.Test.YtpfkhcgeblihcaaQa9
import Derived.Test.YtpfkhcgeblihcaaQa14
import Derived.Test.YtpfkhcgeblihcaaQa4

/-
  The words of a match that is right: the document's way.
-/
namespace Go.Proofs.Ytpfkhcgeblihcaa.Udh
open Go.ChangeShapes Go.WideShapes Go.ChangeAt Go.RowKit
open Bytes8 Blk8 Own8 OwnE OwnA Dc Fa Fb Fc Fo Pr8 Pv8 Qa Qb Qc Qd Qv Qw Qx
open Uda (app_txts txts_one step_append_run bkN1)
open Qq (ownT_snoc ownT_base)
set_option linter.unusedVariables false
set_option maxRecDepth 100000
set_option linter.unusedSimpArgs false

/-- A box of an alt is no list of texts. -/
theorem past_txts {W W' : World} {base n c g : Nat} {A : Option Addr} {l : List TX} {vs : List Value} (h : Blk W g vs 38) (ho : OwnT W base A n c l) (hg : W.grownBy W' (ownB A)) : Blk W' g vs 38 := by
  refine (hg.block g h.lt (fun e => ?_)).trans h
  rcases ho.2.2.2 with ⟨e0, _⟩ | ⟨g', cap, cur, hv, hbg, hgc, _⟩
  · injection e0 with e1 e2 e3
    subst e1
    cases e
  · injection hv with e1 e2 e3
    subst e1
    injection e with e
    subst e
    unfold Blk at h
    rw [hgc] at h
    injection h with h
    injection h with _ h2
    cases h2
set_option maxHeartbeats 8000000 in
theorem rwords_any (M : List RW) (A : Option Addr) (c : Nat) (w : World) (hT : Mts w A M) (hM : OkM M) (hR : ∀ r ∈ M, RightP r) (hcn : cnt M + M.length ≤ 33) :
    Calls Try.prog 13 #[mtV A M.length c] w fun e w' => ∃ A' c', e = .returned (.slice A' (wordsM M).length c') ∧ OwnT w' w.heap.size A' (wordsM M).length c' (wordsM M) ∧ Below w.heap.size w w' := by
  have HO := Lib.hid fun i hi => row_ok hM (i := i) hi
  have HRr := Lib.hid fun i (hi : i < M.length) => hR _ (getD_in hi (d := []))
  have HCl := Lib.hid fun i (hi : i < M.length) => (show vals (M.getD i []) ≤ 33 from by
    have h1 := cnt_take hi
    have h2 := cnt_le M (i + 1)
    omega)
  have HWl := Lib.hid (words_take_len hcn)
  have HWs := Lib.hid fun j (h : j < M.length) => words_take_succ h
  have HWa : Hid (∀ i, M.length ≤ i → wordsM (M.take i) = wordsM M) := Lib.hid fun i hi => by rw [List.take_of_length_le hi]
  have b1 := (Below.refl w.heap.size w).alloc (Nat.le_refl _) (.cells #[.slice A M.length c] 25)
  have R1 := Lib.hid (Blk.new w [.slice A M.length c] 25)
  have HT := Lib.hid (hT.below b1)
  have HB1 := Lib.hid b1
  have HRt := Lib.hid (Udg.rright_any M A c _ (hT.below b1) hM (by omega))
  rw [rM_yes hR hcn] at HRt
  have hn : M.length ≤ 33 := by omega
  dsimp only [mtV] at *
  obtain ⟨n, hL⟩ : ∃ n, M.length = n := ⟨_, rfl⟩
  have HL := Lib.hid hL
  rw [hL] at hn R1 HB1 HT HRt ⊢
  clear hT hM hR b1 hL hcn
  go_enter Try.func13, Try.ntmps13
  go_upto_region 1 with fail
  change Hid (Blk (w.alloc (.cells #[.slice A n c] 25)) w.heap.size _ _) at R1
  change Hid (Calls _ _ _ (w.alloc (.cells #[.slice A n c] 25)) _) at HRt
  generalize w.alloc (.cells #[.slice A n c] 25) = w1 at *
  have r0 := R1.out.cell (i := 0) rfl
  have hlt1 := R1.out.lt
  go_upto_region 4 with (go_at_call 10; (with_reducible refine HRt.out.mono ?_); rintro e w2 ⟨rfl, hb2⟩; have B2 := Lib.hid hb2; clear hb2)
  have R2 := Lib.hid (R1.out.below B2.out R1.out.lt)
  have hlt2 := B2.out.size
  have HT2 := Lib.hid (HT.out.below B2.out)
  clear r0 HRt HT
  go_wp2_with fail
  go_loopw [3, 4] (fun z i wr => ∃ (j p : Nat) (A3 : Option Addr) (c3 : Nat), j ≤ n ∧ i = .int .i64 (j : Int) ∧ z = .slice A3 p c3 ∧ Hid (OwnT wr w2.heap.size A3 p c3 (wordsM (M.take j))) ∧ Hid (Below w2.heap.size w2 wr)) (fun _ i _ => n - (intOf i).toNat)
  case atStart => exact ⟨0, 0, none, 0, by omega, rfl, rfl, Lib.hid ⟨rfl, OwnE.nil w2 _ (Nat.le_refl _)⟩, Lib.hid (Below.refl _ _)⟩
  case round =>
    obtain ⟨j, p, A3, c3, hj, rfl, rfl, hO, hB⟩ := hrel
    have r0 := (R2.out.below hB.out R2.out.lt).cell (i := 0) rfl
    rcases Nat.lt_or_ge j n with hlt | hge
    · obtain ⟨b1, off1, A1, c1, rfl, hbl1, hc0w, hT1⟩ := HT2.out j (by have := HL.out; omega)
      have HC0w := Lib.hid hc0w
      have hin : (j : Int) < (n : Int) := by omega
      have hp33 : p ≤ 33 := by have := HWl.out j; have := hO.out.1; omega
      have hrj := HO.out j (by have := HL.out; omega)
      have hRj := HRr.out j (by have := HL.out; omega)
      have HVj := Lib.hid (HCl.out j (by have := HL.out; omega))
      have HWj := Lib.hid (HWs.out j (by have := HL.out; omega))
      obtain ⟨R, hRr⟩ : ∃ R, M.getD j [] = R := ⟨_, rfl⟩
      rw [hRr] at HC0w hT1 hrj hRj HVj HWj
      obtain ⟨m, hm⟩ : ∃ m, R.length = m := ⟨_, rfl⟩
      have HM := Lib.hid hm
      rw [hm] at HC0w
      have HTR := Lib.hid hT1
      have HORj := Lib.hid hrj
      have HRRj := Lib.hid hRj
      have hmm : m ≤ 9223372036854775807 := by have h := hrj.2; unfold maxLen at h; omega
      have hbs := hB.out.size
      clear hc0w hT1 hrj hRj hRr hm
      go_upto_if 19 with fail
      generalize hz20 : decide (0 < j) = z20 at *
      have HZ := Lib.hid hz20
      clear hz20
      go_cut [3] from 20 to 22 (fun z wx => ∃ (p2 : Nat) (A4 : Option Addr) (c4 : Nat), z = .slice A4 p2 c4 ∧ p2 ≤ 34 ∧ Hid (OwnT wx w2.heap.size A4 p2 c4 (wordsM (M.take j) ++ if j = 0 then [] else [[43]])) ∧ Hid (Below w2.heap.size w2 wx))
      case first =>
        cases z20 with
        | false =>
          have hj0 : j = 0 := by have := of_decide_eq_false HZ.out; omega
          have HE := Lib.hid (show wordsM (M.take j) ++ (if j = 0 then [] else [[43]]) = wordsM (M.take j) by rw [if_pos hj0]; simp)
          clear hj0
          go_wp2_with fail
          go_meet
          case rel => exact ⟨p, A3, c3, rfl, by omega, by rw [HE.out]; exact hO, hB⟩
        | true =>
          have hj0 : j ≠ 0 := by have := of_decide_eq_true HZ.out; omega
          have HE := Lib.hid (show wordsM (M.take j) ++ (if j = 0 then [] else [[43]]) = wordsM (M.take j) ++ [[43]] by rw [if_neg hj0])
          clear hj0
          go_wp2_with (at_builtin; refine wpList_append_elt tElt rfl (.tmp 20) (.tmp 21) rfl w2.heap.size A3 p c3 (cellsT (wordsM (M.take j))) rfl (hO.out.2.alloc (.cells #[.string { data := #[43] }] 9)) ⟨wr.heap.size, 0, none⟩ 1 1 [.string { data := #[43] }] rfl rfl (Blk.news (Blk.new wr [.string { data := #[43] }] 9)) (by intro u hu; simp at hu; subst hu; rfl) (by omega) (by omega) ?_; intro A5 c5 w5 ho5 hb5; have HO5 := Lib.hid (ownT_snoc (x := [43]) hO.out.1 (show OwnE 9 1 w5 w2.heap.size A5 (p + 1) c5 (cellsT (wordsM (M.take j)) ++ [.string (T [43])]) from by rw [← plus_lit]; exact ho5)); have HB5 := Lib.hid hb5; clear ho5 hb5)
          have hb6 : Below w2.heap.size wr w5 := ((Below.refl w2.heap.size wr).alloc hbs _).trans HB5.out
          go_wp2_with fail
          go_meet
          case rel => exact ⟨p + 1, A5, c5, rfl, by omega, by rw [HE.out]; exact HO5, Lib.hid (hB.out.trans hb6)⟩
      case rest =>
        obtain ⟨p2, A4, c4, rfl, hp2, hO4, hB4⟩ := hcut
        obtain ⟨pre, hpre⟩ : ∃ pre, wordsM (M.take j) ++ (if j = 0 then [] else [[43]]) = pre := ⟨_, rfl⟩
        rw [hpre] at hO4 HWj
        have HPl := Lib.hid (show pre.length ≤ 34 by have := hO4.out.1; omega)
        have HPt := Lib.hid fun k (h : k < R.length) => rowT_take_succ h
        have HVl := Lib.hid fun k => vals_le R k
        have HVt := Lib.hid fun k (h : k < R.length) => vals_take h
        have h0 : Hid (OwnT wc w2.heap.size A4 p2 c4 (pre ++ rowT (R.take 0))) := Lib.hid (by rw [List.take_zero, rowT_nil, List.append_nil]; exact hO4.out)
        clear hpre hO hB hbs hO4 HZ r0
        go_wp2_with fail
        go_loopw [3, 5] (fun z i wx => ∃ (k q : Nat) (A5 : Option Addr) (c5 : Nat), k ≤ m ∧ i = .int .i64 (k : Int) ∧ z = .slice A5 q c5 ∧ Hid (OwnT wx w2.heap.size A5 q c5 (pre ++ rowT (R.take k))) ∧ Hid (Below w2.heap.size w2 wx)) (fun _ i _ => m - (intOf i).toNat)
        case atStart => exact ⟨0, p2, A4, c4, by omega, rfl, rfl, h0, hB4⟩
        case round =>
          clear h0 hB4
          obtain ⟨k, q, A5, c5, hk, rfl, rfl, hO5, hB⟩ := hrel
          have r0 := (R2.out.below hB.out R2.out.lt).cell (i := 0) rfl
          have hc0 := (Below.cell (p := ⟨b1, off1 + j, none⟩) hB.out hbl1).trans HC0w.out
          have hbs := hB.out.size
          have hq : q ≤ 67 := by
            have h1 := hO5.out.1
            have h2 := HVl.out k
            have h3 := HVj.out
            have h4 := HPl.out
            rw [List.length_append, rowT_len] at h1
            omega
          rcases Nat.lt_or_ge k m with hlt2 | hge2
          · obtain ⟨b2, off2, A6, c2, rfl, hbl2, d0w, d1w, hT6⟩ := HTR.out k (by have := HM.out; omega)
            have d0 := (Below.cell (p := ⟨b2, off2 + k * 2, none⟩) hB.out hbl2).trans d0w
            have d1 := (Below.cell (p := ⟨b2, off2 + k * 2 + 1, none⟩) hB.out hbl2).trans d1w
            have hin2 : (k : Int) < (m : Int) := by omega
            have hka : R.getD k nilA ∈ R := getD_in (by have := HM.out; omega)
            have hoa := HORj.out.1 _ hka
            have hfa : ∀ v ∈ (R.getD k nilA).2, flawI (R.getD k nilA).1 v = 0 := fun v hv => HRRj.out.fine ((R.getD k nilA).1, v) ((prs_in _ _).2 ⟨_, hka, rfl, hv⟩)
            have hn6 : 0 < (R.getD k nilA).2.length := List.length_pos_iff.2 (HRRj.out.ris.each _ hka).1
            have hn33 : (R.getD k nilA).2.length ≤ 33 := by
              have h1 := HVt.out k (by have := HM.out; omega)
              have h2 := HVl.out (k + 1)
              have h3 := HVj.out
              omega
            have HEk := Lib.hid (show pre ++ rowT (R.take (k + 1)) = pre ++ rowT (R.take k) ++ (R.getD k nilA).2.map (fun v => pay (R.getD k nilA).1 v) by rw [HPt.out k (by have := HM.out; omega), List.append_assoc])
            obtain ⟨a, haa⟩ : ∃ a, R.getD k nilA = a := ⟨_, rfl⟩
            rw [haa] at d0 d1 hT6 hoa hfa hn6 hn33 HEk
            obtain ⟨b3, off3, rfl, hbl30, _⟩ := hT6 0 hn6
            obtain ⟨n2, hn2⟩ : ∃ x, a.2.length = x := ⟨_, rfl⟩
            have HN2 := Lib.hid hn2
            rw [hn2] at d1 hn6 hn33
            have HT6 := Lib.hid hT6
            have HFv := Lib.hid hfa
            have HOa := Lib.hid hoa
            obtain ⟨E1, hE1⟩ : ∃ E, T a.1 = E := ⟨_, rfl⟩
            have HE1 := Lib.hid hE1
            rw [hE1] at d0
            have b6 := (Below.refl wr.heap.size wr).alloc (Nat.le_refl _) (.cells #[.string E1, .slice (some ⟨b3, off3, none⟩) n2 c2] 38)
            have R60 := Lib.hid (Blk.new wr [.string E1, .slice (some ⟨b3, off3, none⟩) n2 c2] 38)
            have hBX := Lib.hid (hB.out.trans (b6.mono hbs))
            have O60 : Hid (OwnT (wr.alloc (.cells #[.string E1, .slice (some ⟨b3, off3, none⟩) n2 c2] 38)) w2.heap.size A5 q c5 (pre ++ rowT (R.take k) ++ (a.2.take 0).map (fun v => pay a.1 v))) := Lib.hid (by rw [List.take_zero, List.map_nil, List.append_nil]; exact hO5.out.alloc _)
            clear b6 hT6 hoa hfa hn2 hE1 haa d0w d1w hO5 hka hbl30
            go_upto_region 13 with fail
            change Hid (Blk (wr.alloc (.cells #[.string E1, .slice (some ⟨b3, off3, none⟩) n2 c2] 38)) wr.heap.size [.string E1, .slice (some ⟨b3, off3, none⟩) n2 c2] 38) at R60
            generalize wr.alloc (.cells #[.string E1, .slice (some ⟨b3, off3, none⟩) n2 c2] 38) = X0 at *
            generalize wr.heap.size = g6 at *
            have hprl : (pre ++ rowT (R.take k)).length ≤ 67 := by
              have h2 := HVl.out k
              have h3 := HVj.out
              have h4 := HPl.out
              rw [List.length_append, rowT_len]
              omega
            generalize pre ++ rowT (R.take k) = PR at *
            have HPR := Lib.hid hprl
            have x1 := R60.out.cell (i := 1) rfl
            clear r0 hc0 d0 d1 hB hbs hprl
            go_wp2_with fail
            go_loopw [3, 7] (fun z i wz => ∃ (v s : Nat) (A7 : Option Addr) (c7 : Nat), v ≤ n2 ∧ i = .int .i64 (v : Int) ∧ z = .slice A7 s c7 ∧ Hid (OwnT wz w2.heap.size A7 s c7 (PR ++ (a.2.take v).map (fun u => pay a.1 u))) ∧ Hid (Blk wz g6 [.string E1, .slice (some ⟨b3, off3, none⟩) n2 c2] 38) ∧ Hid (Below w2.heap.size w2 wz)) (fun _ i _ => n2 - (intOf i).toNat)
            case atStart => exact ⟨0, q, A5, c5, by omega, rfl, rfl, O60, R60, hBX⟩
            case round =>
              clear x1 O60 R60 hBX
              obtain ⟨v, s, A7, c7, hv, rfl, rfl, hOz, R6, hB⟩ := hrel
              have x0 := R6.out.cell (i := 0) rfl
              have x1 := R6.out.cell (i := 1) rfl
              have hbs := hB.out.size
              have hs100 : s ≤ 100 := by
                have h1 := hOz.out.1
                have h2 := HPR.out
                rw [List.length_append, List.length_map, List.length_take] at h1
                omega
              rcases Nat.lt_or_ge v n2 with hlt3 | hge5
              · obtain ⟨b3', off3', e, hbl3, htv⟩ := HT6.out v (by have := HN2.out; omega)
                injection e with e; injection e with e1 e2; subst e1; subst e2
                have hin3 : (v : Int) < (n2 : Int) := by omega
                have hva : v < a.2.length := by have := HN2.out; omega
                have hfl := HFv.out _ (getD_in hva (d := []))
                have hfll := flaw_fine hfl
                have hnl := nmB_len hfll.1
                have h1 := fun W => add_run a.1 [61] (by simp; omega) W
                have h2 := fun W => add_run (a.1 ++ [61]) (a.2.getD v []) (by rw [List.length_append]; simp only [List.length_cons, List.length_nil]; omega) W
                have hmp : (a.2.take (v + 1)).map (fun u => pay a.1 u) = (a.2.take v).map (fun u => pay a.1 u) ++ [pay a.1 (a.2.getD v [])] := map_take_succ hva
                have hpp : a.1 ++ [61] ++ a.2.getD v [] = pay a.1 (a.2.getD v []) := rfl
                rw [hpp] at h2
                rw [← T_one, HE1.out] at h1
                obtain ⟨P, hP⟩ : ∃ P, pay a.1 (a.2.getD v []) = P := ⟨_, rfl⟩
                rw [hP] at h2 hmp
                obtain ⟨E3, hE3⟩ : ∃ E, T (a.2.getD v []) = E := ⟨_, rfl⟩
                rw [hE3] at h2 htv
                obtain ⟨E4, hE4⟩ : ∃ E, T (a.1 ++ [61]) = E := ⟨_, rfl⟩
                rw [hE4] at h1 h2
                obtain ⟨P1, hP1⟩ : ∃ E, T P = E := ⟨_, rfl⟩
                rw [hP1] at h2
                have HP1 := Lib.hid hP1
                have HTv := Lib.hid htv
                have HMp := Lib.hid hmp
                have hold6 : ∀ (Y Z : World), Blk Y g6 [.string E1, .slice (some ⟨b3, off3, none⟩) n2 c2] 38 → OwnT Y w2.heap.size A7 s c7 (PR ++ (a.2.take v).map (fun u => pay a.1 u)) → Y.grownBy Z (ownB A7) → Blk Z g6 [.string E1, .slice (some ⟨b3, off3, none⟩) n2 c2] 38 := fun Y Z h ho hg => past_txts h ho hg
                have HOld := Lib.hid hold6
                clear hfl hfll hnl hmp hpp hP hE3 hE4 hP1 htv hold6
                go_upto_region 16 with fail
                have hold6 := HOld.out
                refine wp_region_noPanic ?_
                refine wp_region_held_drew (S := fun W => Below w2.heap.size w2 W ∧ W.cell? ⟨g6, 0, none⟩ = some (.string E1) ∧ W.cell? ⟨g6, 1, none⟩ = some (.slice (some ⟨b3, off3, none⟩) n2 c2)) (by kernel_rfl) (by exact ⟨hB.out.drew, x0, x1⟩) (fun hHeld => ?_)
                refine wpAnyH_take (i := 0) (oi := ⟨some 48, _, _, _, _, _⟩) (v := ?_) rfl (by kernel_rfl) (by kernel_rfl) (by kernel_rfl) (fun _ _ _ h => h) (Or.inl ⟨by rfl, ?_⟩) (by assumption) ?_
                rotate_left
                · intro W hSw; go_simp; try (with_reducible rfl)
                try simp only [Act.put, List.setIfInBounds_toArray, List.set_cons_zero, List.set_cons_succ]
                refine wpAnyH_take (i := 1) (oi := ⟨some 49, _, _, _, _, _⟩) (v := ?_) rfl (by kernel_rfl) (by kernel_rfl) (by kernel_rfl) (fun _ _ _ h => h) (Or.inl ⟨by rfl, ?_⟩) (by assumption) ?_
                rotate_left
                · intro W hSw; go_simp; try (with_reducible rfl)
                try simp only [Act.put, List.setIfInBounds_toArray, List.set_cons_zero, List.set_cons_succ]
                refine wpAnyH_take (i := 2) (oi := ⟨some 50, _, _, _, _, _⟩) (v := ?_) rfl (by kernel_rfl) (by kernel_rfl) (by kernel_rfl) (fun _ _ _ h => h) (Or.inl ⟨by rfl, ?_⟩) (by assumption) ?_
                rotate_left
                · intro W hSw; have q0 := hSw.2.1; go_simp; try (with_reducible rfl)
                try simp only [Act.put, List.setIfInBounds_toArray, List.set_cons_zero, List.set_cons_succ]
                refine wpAnyH_take (i := 3) (oi := ⟨some 51, _, _, _, _, _⟩) (v := ?_) rfl (by kernel_rfl) (by kernel_rfl) (by kernel_rfl) (fun _ _ _ h => h) (Or.inl ⟨by rfl, ?_⟩) (by assumption) ?_
                rotate_left
                · intro W hSw; go_simp; try (with_reducible rfl)
                try simp only [Act.put, List.setIfInBounds_toArray, List.set_cons_zero, List.set_cons_succ]
                refine wpAnyH_take (i := 4) (oi := ⟨some 52, _, _, _, _, _⟩) (v := ?_) rfl (by kernel_rfl) (by kernel_rfl) (by kernel_rfl) (fun _ _ _ h => h) (Or.inl ⟨by rfl, ?_⟩) (by assumption) ?_
                rotate_left
                · intro W hSw; go_simp; try (with_reducible rfl)
                try simp only [Act.put, List.setIfInBounds_toArray, List.set_cons_zero, List.set_cons_succ]
                refine wpAnyH_take (i := 5) (oi := ⟨some 53, _, _, _, _, _⟩) (v := ?_) rfl (by kernel_rfl) (by kernel_rfl) (by kernel_rfl) (fun _ _ _ h => h) (Or.inl ⟨by rfl, ?_⟩) (by assumption) ?_
                rotate_left
                · intro W hSw; have q1 := hSw.2.2; go_simp; try (with_reducible rfl)
                try simp only [Act.put, List.setIfInBounds_toArray, List.set_cons_zero, List.set_cons_succ]
                refine wpAnyH_take (i := 6) (oi := ⟨some 54, _, _, _, _, _⟩) (v := ?_) rfl (by kernel_rfl) (by kernel_rfl) (by kernel_rfl) (fun _ _ _ h => h) (Or.inl ⟨by rfl, ?_⟩) (by assumption) ?_
                rotate_left
                · intro W hSw; go_simp; try (with_reducible rfl)
                try simp only [Act.put, List.setIfInBounds_toArray, List.set_cons_zero, List.set_cons_succ]
                refine wpAnyH_take (i := 7) (oi := ⟨some 55, _, _, _, _, _⟩) (v := ?_) rfl (by kernel_rfl) (by kernel_rfl) (by kernel_rfl) (fun _ _ _ h => h) (Or.inl ⟨by rfl, ?_⟩) (by assumption) ?_
                rotate_left
                · intro W hSw; go_simp; try (with_reducible rfl)
                try simp only [Act.put, List.setIfInBounds_toArray, List.set_cons_zero, List.set_cons_succ]
                refine wpAnyH_take (i := 8) (oi := ⟨some 56, _, _, _, _, _⟩) (v := ?_) rfl (by kernel_rfl) (by kernel_rfl) (by kernel_rfl) (fun _ _ _ h => h) (Or.inl ⟨by rfl, ?_⟩) (by assumption) ?_
                rotate_left
                · intro W hSw; have q5 := (Below.cell (p := ⟨b3, off3 + v, none⟩) hSw.1 hbl3).trans HTv.out; go_simp; try (with_reducible rfl)
                try simp only [Act.put, List.setIfInBounds_toArray, List.set_cons_zero, List.set_cons_succ]
                refine wpAnyH_take (i := 9) (oi := ⟨some 57, _, _, _, _, _⟩) (v := ?_) rfl (by kernel_rfl) (by kernel_rfl) (by kernel_rfl) (fun _ _ _ h => h) (Or.inl ⟨by rfl, ?_⟩) (by assumption) ?_
                rotate_left
                · intro W hSw; go_simp; try (with_reducible rfl)
                try simp only [Act.put, List.setIfInBounds_toArray, List.set_cons_zero, List.set_cons_succ]
                have hBd : Below w2.heap.size w2 (World.drew wr) := hB.out.drew
                have hOd := ownT_kept hOz.out ((Below.refl _ _).drew : Below wr.heap.size wr (World.drew wr))
                have hRd : Blk (World.drew wr) g6 [.string E1, .slice (some ⟨b3, off3, none⟩) n2 c2] 38 := R6.out.below ((Below.refl _ _).drew) R6.out.lt
                generalize World.drew wr = X at *
                refine wpAnyH_ready (rs := [10]) (by kernel_rfl) (by simp) ?_
                refine AllReadyH.cons (o := ⟨some 58, _, _, _, _, _⟩) rfl (fun K hK => ?_) AllReadyH.nil
                go_simp
                have hY := hRd.alloc (.cells #[.string P1] 9)
                have hBy := hBd.alloc hBd.size (.cells #[.string P1] 9)
                have hOy := hOd.alloc (.cells #[.string P1] 9)
                have hl : Blk (World.alloc X (.cells #[.string P1] 9)) (World.heap X).size [.string P1] 9 := bkN1 rfl
                refine hK.out _ _ ⟨hBy, hY.cell (i := 0) rfl, hY.cell (i := 1) rfl⟩ (fun hHeld => ?_)
                clear hK K hBd hOd hRd
                generalize World.alloc X (.cells #[.string P1] 9) = Y at *
                generalize (World.heap X).size = g7 at *
                try simp only [Act.put, List.setIfInBounds_toArray, List.set_cons_zero, List.set_cons_succ]
                rw [← HP1.out] at hl
                obtain ⟨A8, c8, Z, hr, hO8, hg⟩ := app_txts (c2 := 1) 22 hOy (txts_one hl) (show [P].length = 1 from rfl) (by omega)
                refine wpAnyH_ready (rs := [11]) (by kernel_rfl) (by simp) ?_
                refine AllReadyH.cons (o := ⟨some 59, _, _, _, _, _⟩) rfl (fun K hK => ?_) AllReadyH.nil
                have hBz := hBy.grown hg hBy.size (fun z hz => (Dc.OwnE.ltB hOy.2 z hz).1)
                have hRz := hold6 Y Z hY hOy hg
                refine step_append_run (o := ⟨some 59, _, _, _, _, _⟩) rfl (.tmp 48) (.tmp 58) 22 rfl _ _ rfl rfl _ _ hr ?_
                refine hK.out _ _ ⟨hBz, hRz.cell (i := 0) rfl, hRz.cell (i := 1) rfl⟩ (fun hHeld => ?_)
                clear hK K hr hg hl hY hBy hOy
                try simp only [Act.put, List.setIfInBounds_toArray, List.set_cons_zero, List.set_cons_succ]
                refine wpAnyH_take (i := 12) (oi := ⟨some 3, _, _, _, _, _⟩) (v := ?_) rfl (by kernel_rfl) (by kernel_rfl) (by kernel_rfl) (fun _ _ _ h => h) (Or.inl ⟨by rfl, ?_⟩) (by assumption) ?_
                rotate_left
                · intro W hSw; go_simp; try (with_reducible rfl)
                try simp only [Act.put, List.setIfInBounds_toArray, List.set_cons_zero, List.set_cons_succ]
                refine wpAnyH_done (by kernel_rfl) ?_ _
                refine NoPanic.normal ?_
                have HB8 := Lib.hid hBz
                have HR8 := Lib.hid hRz
                have hO9 : OwnT Z w2.heap.size A8 (s + 1) c8 (PR ++ (a.2.take (v + 1)).map (fun u => pay a.1 u)) := by rw [HMp.out, ← List.append_assoc]; exact hO8
                have HO9 := Lib.hid hO9
                clear hHeld hBz hRz hO8 hO9 hold6 h1 h2
                go_wp2_with fail
                go_round
                case rel => exact ⟨v + 1, s + 1, A8, c8, by omega, by go_num, rfl, HO9, HR8, HB8⟩
                case measure => simp [intOf]; omega
              · have hge6 : ¬ ((v : Int) < (n2 : Int)) := by omega
                have hO6 := hOz.out
                rw [List.take_of_length_le (by have := HN2.out; omega), ← HEk.out] at hO6
                have HO6 := Lib.hid hO6
                clear hO6 hOz hge5
                go_wp2_with fail
                go_round
                case rel => exact ⟨k + 1, s, A7, c7, by omega, by go_num, rfl, HO6, hB⟩
                case measure => simp [intOf]; omega
          · have hge4 : ¬ ((k : Int) < (m : Int)) := by omega
            have hO6 := hO5.out
            have e : R.take k = R := List.take_of_length_le (by have := HM.out; omega)
            rw [e, ← HWj.out] at hO6
            have HO6 := Lib.hid hO6
            clear hO6 hO5 e hge2
            go_wp2_with fail
            go_round
            case rel => exact ⟨j + 1, q, A5, c5, by omega, by go_num, rfl, HO6, hB⟩
            case measure => simp [intOf]; omega
    · have hge3 : ¬ ((j : Int) < (n : Int)) := by omega
      have hO2 := hO.out
      rw [HWa.out j (by have := HL.out; omega)] at hO2
      have HO2 := Lib.hid hO2
      have hpl : p = (wordsM M).length := hO2.1.symm
      subst hpl
      clear hO2 hO hge
      go_wp2_with fail
      go_ret
      exact ⟨_, _, rfl, ownT_base HO2.out (by omega), HB1.out.trans ((B2.out.mono (Nat.le_of_lt hlt1)).trans (hB.out.mono (by omega)))⟩
end Go.Proofs.Ytpfkhcgeblihcaa.Udh

/-
  What a match that is right is; the words of one that is not, both ways.
-/
namespace Go.Proofs.Ytpfkhcgeblihcaa.Udi
open Go.ChangeShapes Go.WideShapes Go.ChangeAt Go.RowKit
open Bytes8 Blk8 Own8 OwnE Fa Fb Fc Fo Pr8 Pv8 Qa Qb Qc Qd Qv Qw Qx
set_option linter.unusedVariables false
set_option maxRecDepth 100000
set_option linter.unusedSimpArgs false

theorem pairs_of {α : Type} {lt : α → α → Bool} (tr : ∀ a b c, lt a b = true → lt b c = true → lt a c = true) {l : List α} {d : α} (h : ∀ i, i < l.length → 0 < i → lt (l.getD (i - 1) d) (l.getD i d) = true) : l.Pairwise fun a b => lt a b = true := by
  rw [List.pairwise_iff_getElem]
  have key : ∀ k i (hi : i < l.length) (hj : i + 1 + k < l.length), lt l[i] l[i + 1 + k] = true := by
    intro k
    induction k with
    | zero =>
      intro i hi hj
      have h1 := h (i + 1) hj (by omega)
      rw [Qv.getD_at (show i + 1 - 1 < l.length by omega), Qv.getD_at (show i + 1 < l.length from hj)] at h1
      exact h1
    | succ k ih =>
      intro i hi hj
      refine tr _ _ _ (ih i hi (by omega)) ?_
      have h1 := h (i + 1 + (k + 1)) hj (by omega)
      rw [Qv.getD_at (show i + 1 + (k + 1) - 1 < l.length by omega), Qv.getD_at hj] at h1
      exact h1
  intro i j hi hj hij
  obtain ⟨k, rfl⟩ : ∃ k, j = i + 1 + k := ⟨j - i - 1, by omega⟩
  exact key k i hi hj
theorem rA_back {a : AL} (h : rA a = true) : a.2 ≠ [] ∧ UpT a.2 ∧ ∀ v ∈ a.2, flawI a.1 v = 0 := by
  unfold rA at h
  rw [Bool.and_eq_true, Bool.and_eq_true, decide_eq_true_eq, decide_eq_true_eq] at h
  obtain ⟨h1, h2, h3⟩ := h
  refine ⟨List.length_pos_iff.1 h2, pairs_of (lt := ltL) (d := []) ltL_trans fun i hi h0 => (h1 i hi).2 h0, fun v hv => ?_⟩
  obtain ⟨i, hi, rfl⟩ := List.mem_iff_getElem.1 hv
  have h4 := (h1 i hi).1
  rw [Qv.getD_at hi] at h4
  unfold flawI
  rw [if_pos h3, if_neg (by omega)]
theorem rR_back {r : RW} (h : rR r = true) : RightP r := by
  unfold rR at h
  rw [Bool.and_eq_true, decide_eq_true_eq, decide_eq_true_eq] at h
  obtain ⟨h1, h2⟩ := h
  have each : ∀ a ∈ r, rA a = true := fun a ha => by
    obtain ⟨i, hi, rfl⟩ := List.mem_iff_getElem.1 ha
    have h4 := (h1 i hi).1
    rwa [Qv.getD_at hi] at h4
  refine ⟨⟨pairs_of (lt := fun a b : AL => ltL a.1 b.1) (d := nilA) (fun a b c => ltL_trans _ _ _) fun i hi h0 => (h1 i hi).2 h0, fun a ha => ⟨(rA_back (each a ha)).1, (rA_back (each a ha)).2.1⟩⟩, List.length_pos_iff.1 h2, fun p hp => ?_⟩
  obtain ⟨a, ha, e, hv⟩ := (prs_in _ _).1 hp
  have := (rA_back (each a ha)).2.2 p.2 hv
  rwa [e] at this
theorem rM_back {M : List RW} (h : rM M = true) : (∀ r ∈ M, RightP r) ∧ cnt M + M.length ≤ 33 := by
  unfold rM at h
  rw [Bool.and_eq_true, decide_eq_true_eq, decide_eq_true_eq] at h
  refine ⟨fun r hr => ?_, h.2⟩
  obtain ⟨i, hi, rfl⟩ := List.mem_iff_getElem.1 hr
  have h4 := h.1 i hi
  rw [Qv.getD_at hi] at h4
  exact rR_back h4

set_option maxHeartbeats 2000000 in
theorem words_no (M : List RW) (A : Option Addr) (c : Nat) (w : World) (hT : Mts w A M) (hM : OkM M) (hcn : cnt M + M.length ≤ 4611686018427387904) (hr : rM M = false) :
    Calls Try.prog 12 #[mtV A M.length c] w fun e w' => e = .returned (.slice none 0 0) ∧ Below w.heap.size w w' := by
  have b1 := (Below.refl w.heap.size w).alloc (Nat.le_refl _) (.cells #[.slice A M.length c] 25)
  have R1 := Lib.hid (Blk.new w [.slice A M.length c] 25)
  have HB1 := Lib.hid b1
  have HRt := Lib.hid (right_any M A c _ (hT.below b1) hM hcn)
  rw [hr] at HRt
  dsimp only [mtV] at *
  obtain ⟨n, hL⟩ : ∃ n, M.length = n := ⟨_, rfl⟩
  rw [hL] at R1 HB1 HRt ⊢
  clear hT hM b1 hL hcn hr
  go_enter Try.func12, Try.ntmps12
  go_upto_region 1 with fail
  change Hid (Blk (w.alloc (.cells #[.slice A n c] 25)) w.heap.size _ _) at R1
  change Hid (Calls _ _ _ (w.alloc (.cells #[.slice A n c] 25)) _) at HRt
  generalize w.alloc (.cells #[.slice A n c] 25) = w1 at *
  have r1 := R1.out.cell (i := 0) rfl
  go_wp2_with (go_at_call 9; (with_reducible refine HRt.out.mono ?_); rintro e w2 ⟨rfl, hb⟩; have HB2 := Lib.hid hb; clear hb)
  go_ret
  exact ⟨rfl, HB1.out.trans (HB2.out.mono HB1.out.size)⟩
set_option maxHeartbeats 2000000 in
theorem rwords_no (M : List RW) (A : Option Addr) (c : Nat) (w : World) (hT : Mts w A M) (hM : OkM M) (hcn : cnt M + M.length ≤ 4611686018427387904) (hr : rM M = false) :
    Calls Try.prog 13 #[mtV A M.length c] w fun e w' => e = .returned (.slice none 0 0) ∧ Below w.heap.size w w' := by
  have b1 := (Below.refl w.heap.size w).alloc (Nat.le_refl _) (.cells #[.slice A M.length c] 25)
  have R1 := Lib.hid (Blk.new w [.slice A M.length c] 25)
  have HB1 := Lib.hid b1
  have HRt := Lib.hid (Udg.rright_any M A c _ (hT.below b1) hM hcn)
  rw [hr] at HRt
  dsimp only [mtV] at *
  obtain ⟨n, hL⟩ : ∃ n, M.length = n := ⟨_, rfl⟩
  rw [hL] at R1 HB1 HRt ⊢
  clear hT hM b1 hL hcn hr
  go_enter Try.func13, Try.ntmps13
  go_upto_region 1 with fail
  change Hid (Blk (w.alloc (.cells #[.slice A n c] 25)) w.heap.size _ _) at R1
  change Hid (Calls _ _ _ (w.alloc (.cells #[.slice A n c] 25)) _) at HRt
  generalize w.alloc (.cells #[.slice A n c] 25) = w1 at *
  have r1 := R1.out.cell (i := 0) rfl
  go_wp2_with (go_at_call 10; (with_reducible refine HRt.out.mono ?_); rintro e w2 ⟨rfl, hb⟩; have HB2 := Lib.hid hb; clear hb)
  go_ret
  exact ⟨rfl, HB1.out.trans (HB2.out.mono HB1.out.size)⟩
/-- Words, whatever the match is. -/
def wordsV (M : List RW) : List TX := if rM M = true then wordsM M else []
theorem words_either (M : List RW) (A : Option Addr) (c : Nat) (w : World) (hT : Mts w A M) (hM : OkM M) (hcn : cnt M + M.length ≤ 4611686018427387904) :
    Calls Try.prog 12 #[mtV A M.length c] w fun e w' => ∃ A' c', e = .returned (.slice A' (wordsV M).length c') ∧ Txts w' A' (wordsV M) ∧ Below w.heap.size w w' := by
  unfold wordsV
  by_cases h : rM M = true
  · obtain ⟨h1, h2⟩ := rM_back h
    rw [if_pos h]
    exact (wordsm_any M A c w hT hM h1 h2).mono fun e w' ⟨A', c', he, ho, hb⟩ => ⟨A', c', he, ho.txts, hb⟩
  · rw [if_neg h]
    exact (words_no M A c w hT hM hcn (by simpa using h)).mono fun e w' ⟨he, hb⟩ => ⟨none, 0, he, Txts.nil _ _, hb⟩
theorem rwords_either (M : List RW) (A : Option Addr) (c : Nat) (w : World) (hT : Mts w A M) (hM : OkM M) (hcn : cnt M + M.length ≤ 4611686018427387904) :
    Calls Try.prog 13 #[mtV A M.length c] w fun e w' => ∃ A' c', e = .returned (.slice A' (wordsV M).length c') ∧ Txts w' A' (wordsV M) ∧ Below w.heap.size w w' := by
  unfold wordsV
  by_cases h : rM M = true
  · obtain ⟨h1, h2⟩ := rM_back h
    rw [if_pos h]
    exact (Udh.rwords_any M A c w hT hM h1 h2).mono fun e w' ⟨A', c', he, ho, hb⟩ => ⟨A', c', he, ho.txts, hb⟩
  · rw [if_neg h]
    exact (rwords_no M A c w hT hM hcn (by simpa using h)).mono fun e w' ⟨he, hb⟩ => ⟨none, 0, he, Txts.nil _ _, hb⟩
/-- So many words at most where no list is long. -/
theorem cnt_small {M : List RW} {b : Nat} (h1 : M.length ≤ b) (h2 : ∀ r ∈ M, r.length ≤ b ∧ ∀ a ∈ r, a.2.length ≤ b) : cnt M ≤ b * b * b := by
  have hv : ∀ r ∈ M, vals r ≤ b * b := fun r hr => by
    have : ∀ (s : RW), (∀ a ∈ s, a.2.length ≤ b) → vals s ≤ s.length * b := by
      intro s
      induction s with
      | nil => intro _; simp [vals]
      | cons a s ih =>
        intro hs
        rw [vals_cons, List.length_cons, Nat.add_mul, Nat.one_mul]
        have := ih fun x hx => hs x (by simp [hx])
        have := hs a (by simp)
        omega
    exact Nat.le_trans (this r (h2 r hr).2) (Nat.mul_le_mul_right _ (h2 r hr).1)
  have : ∀ (N : List RW), (∀ r ∈ N, vals r ≤ b * b) → cnt N ≤ N.length * (b * b) := by
    intro N
    induction N with
    | nil => intro _; simp [cnt]
    | cons r N ih =>
      intro hs
      have e : cnt (r :: N) = vals r + cnt N := by simp [cnt]
      rw [e, List.length_cons, Nat.add_mul, Nat.one_mul]
      have := ih fun x hx => hs x (by simp [hx])
      have := hs r (by simp)
      omega
  exact Nat.le_trans (this M hv) (by rw [Nat.mul_assoc]; exact Nat.mul_le_mul_right _ h1)
end Go.Proofs.Ytpfkhcgeblihcaa.Udi

/-
  The law's look at how small a match is: where it says yes, the rows have a hundred alts at most.
-/
namespace Go.Proofs.Ytpfkhcgeblihcaa.Udj
open Go.ChangeShapes Go.WideShapes Go.ChangeAt Go.RowKit
open Bytes8 Blk8 Own8 OwnE Fa Fb Fc Fo Pr8 Pv8 Qa Qb Qc Qd
open Qbs (Fits)
open Qv (cnt vals vals_cons)
set_option linter.unusedVariables false
set_option maxRecDepth 100000
set_option linter.unusedSimpArgs false

/-- How many rows, and alts in them. -/
def tot (M : List RW) : Nat := M.length + (M.map List.length).sum
theorem tot_take {M : List RW} {k : Nat} (h : k < M.length) : tot (M.take (k + 1)) = tot (M.take k) + 1 + (M.getD k []).length := by
  unfold tot
  rw [Qw.take_succ' h (d := [])]
  simp
  omega
theorem tot_zero (M : List RW) : tot (M.take 0) = 0 := rfl
theorem cnt_tot {b : Nat} : ∀ (M : List RW), (∀ r ∈ M, ∀ a ∈ r, a.2.length ≤ b) → cnt M ≤ (M.map List.length).sum * b
  | [], _ => by simp [cnt]
  | r :: M, h => by
    have e : cnt (r :: M) = vals r + cnt M := by simp [cnt]
    have ih := cnt_tot M fun x hx => h x (by simp [hx])
    have hv : ∀ (s : RW), (∀ a ∈ s, a.2.length ≤ b) → vals s ≤ s.length * b := by
      intro s
      induction s with
      | nil => intro _; simp [vals]
      | cons a s ih =>
        intro hs
        rw [vals_cons, List.length_cons, Nat.add_mul, Nat.one_mul]
        have := ih fun x hx => hs x (by simp [hx])
        have := hs a (by simp)
        omega
    have := hv r (h r (by simp))
    rw [e, List.map_cons, List.sum_cons, Nat.add_mul]
    omega
theorem cnt_le_of {M : List RW} (h : tot M ≤ 100) (hF : Fits M) : cnt M + M.length ≤ 4611686018427387904 := by
  have h1 := cnt_tot M fun r hr a ha => (hF.2 r hr).2 a ha
  unfold tot at h
  have h2 : (M.map List.length).sum * reachBytes ≤ 100 * reachBytes := Nat.mul_le_mul_right _ (by omega)
  have h3 : 100 * reachBytes ≤ 14073748835123200 := by decide
  omega
/-- A yes or a no; nothing turned. -/
def SmallB (M : List RW) (w : World) (e : Ending) (w' : World) : Prop := ∃ z, e = .returned (.bool z) ∧ (z = true → tot M ≤ 100) ∧ Below w.heap.size w w'
set_option maxHeartbeats 8000000 in
theorem small_any (M : List RW) (A : Option Addr) (c : Nat) (w : World) (hT : Mts w A M) (hM : OkM M) (hF : Fits M) :
    Calls Try.prog 5 #[mtV A M.length c] w (SmallB M w) := by
  have hn := hM.2
  unfold maxLen at hn
  have b1 := (Below.refl w.heap.size w).alloc (Nat.le_refl _) (.cells #[.slice A M.length c] 25)
  have R1 := Lib.hid (Blk.new w [.slice A M.length c] 25)
  have HT := Lib.hid (hT.below b1)
  have HM := Lib.hid hM
  have HB1 := Lib.hid b1
  have HF := Lib.hid fun k (hk : k < M.length) => (show (M.getD k []).length ≤ 140737488351232 ∧ ∀ a ∈ M.getD k [], a.2.length ≤ 140737488351232 from hF.2 _ (getD_in hk))
  have HS := Lib.hid fun k (hk : k < M.length) => tot_take hk
  have HS0 := Lib.hid (tot_zero M)
  have HSn : Hid (∀ k, M.length ≤ k → tot (M.take k) = tot M) := Lib.hid fun k hk => by rw [List.take_of_length_le hk]
  clear hF
  dsimp only [mtV] at *
  obtain ⟨n, hL⟩ : ∃ n, M.length = n := ⟨_, rfl⟩
  have HL := Lib.hid hL
  rw [hL] at hn R1 HB1 HT ⊢
  clear hT hM b1 hL
  go_enter Try.func5, Try.ntmps5
  go_upto_region 1 with fail
  change Hid (Blk (w.alloc (.cells #[.slice A n c] 25)) w.heap.size _ _) at R1
  change Hid (Below _ _ (w.alloc (.cells #[.slice A n c] 25))) at HB1
  generalize w.alloc (.cells #[.slice A n c] 25) = w1 at *
  generalize hg : w.heap.size = g at *
  have HG := Lib.hid hg
  clear hg
  have HR := Lib.hid fun (W : World) (h : Below w1.heap.size w1 W) => (R1.out.below h R1.out.lt).cell (i := 0) rfl
  have HE := Lib.hid fun (W : World) (h : Below w1.heap.size w1 W) => show Below w.heap.size w W from HG.out ▸ HB1.out.trans (h.mono (HG.out ▸ HB1.out.size))
  have HTW := Lib.hid fun (W : World) (h : Below w1.heap.size w1 W) => HT.out.below h
  go_wp2_with fail
  go_loopw [3, 4, 5, 6, 7] (fun vn vi _ _ _ wr => ∃ (z : Int) (k : Nat), vn = .int .i64 z ∧ vi = .int .i64 (k : Int) ∧ k ≤ n ∧ (tot (M.take k) : Int) ≤ z ∧ z ≤ 100 ∧ Hid (Below w1.heap.size w1 wr)) (fun _ vi _ _ _ _ => n - (intOf vi).toNat)
  case atStart => exact ⟨0, 0, rfl, rfl, by omega, by rw [HS0.out]; decide, by decide, Lib.hid (Below.refl _ _)⟩
  case round =>
    obtain ⟨z, k, rfl, rfl, hk, hz1, hz2, hB⟩ := hrel
    have HZ1 := Lib.hid hz1
    have hz0 : 0 ≤ z := by omega
    clear hz1
    have r0 := HR.out _ hB.out
    by_cases hlt : k < n
    · have hki : (k : Int) < (n : Int) := by omega
      have hkl : k < M.length := by have := HL.out; omega
      obtain ⟨b, off, A1, c1, rfl, hbl, hcell, hals⟩ := (HTW.out _ hB.out) k hkl
      obtain ⟨hr, hav⟩ := HF.out k hkl
      have HAv := Lib.hid hav
      have HSk := Lib.hid (HS.out k hkl)
      clear hav
      have HRa := Lib.hid fun (W : World) (h : Below wr.heap.size wr W) => hals.below h
      have HRc := Lib.hid fun (W : World) (h : Below wr.heap.size wr W) => (h.cell (p := ⟨b, off + k, none⟩) hbl).trans hcell
      generalize M.getD k [] = row at *
      obtain ⟨r, hrl⟩ : ∃ r, row.length = r := ⟨_, rfl⟩
      have HRl := Lib.hid hrl
      rw [hrl] at hr hcell HRc HSk
      clear hals hrl
      have hw1 : wrap64 (z + 1) = z + 1 := by unfold wrap64; omega
      have hw2 : wrap64 (z + 1 + (r : Int)) = z + 1 + (r : Int) := by unfold wrap64; omega
      go_upto_region 7 with fail
      go_loopw [3, 5, 6, 7] (fun vn vj _ _ wq => ∃ (y : Int) (j : Nat), vn = .int .i64 y ∧ vj = .int .i64 (j : Int) ∧ j ≤ r ∧ j ≤ 50 ∧ z + 1 + (r : Int) ≤ y ∧ y ≤ 140737488352000 + 100 * (j : Int) ∧ Hid (Below wr.heap.size wr wq)) (fun _ vj _ _ _ => r - (intOf vj).toNat)
      case atStart => exact ⟨_, 0, rfl, rfl, by omega, by omega, by omega, by omega, Lib.hid (Below.refl _ _)⟩
      case round =>
        obtain ⟨y, j, rfl, rfl, hj, hj5, hy1, hy2, hQ⟩ := hrel
        clear hw1 hw2
        have hB2 := hB.out.trans (hQ.out.mono hB.out.size)
        have q0 := HR.out _ hB2
        have q1 := HRc.out _ hQ.out
        by_cases hjr : j < r
        · have hji : (j : Int) < (r : Int) := by omega
          by_cases h50 : j < 50
          · have h50i : (j : Int) < 50 := by omega
            have hjl : j < row.length := by have := HRl.out; omega
            obtain ⟨b2, off2, A2, c2, rfl, hbl2, hc0, hc1, htx⟩ := (HRa.out _ hQ.out) j hjl
            have hvl := HAv.out (row.getD j nilA) (getD_in hjl)
            generalize row.getD j nilA = al at *
            obtain ⟨nm, vs⟩ := al
            dsimp only at hc0 hc1 htx hvl
            obtain ⟨m, hm⟩ : ∃ m, vs.length = m := ⟨_, rfl⟩
            have HMl := Lib.hid hm
            rw [hm] at hc1 hvl
            clear hm
            have hw3 : wrap64 (y + (m : Int)) = y + (m : Int) := by unfold wrap64; omega
            go_upto_region 10 with fail
            have ba := (Below.refl wr.heap.size wr).alloc (Nat.le_refl _) (.cells #[.string (T nm), .slice A2 m c2] 38)
            have ra := Blk.new wr [.string (T nm), .slice A2 m c2] 38
            change Blk (wr.alloc (.cells #[.string (T nm), .slice A2 m c2] 38)) _ _ _ at ra
            generalize wr.alloc (.cells #[.string (T nm), .slice A2 m c2] 38) = wa at *
            have a0 : wa.cell? ⟨wr.heap.size, 0, none⟩ = some (.string (T nm)) := ra.cell rfl
            have a1 : wa.cell? ⟨wr.heap.size, 1, none⟩ = some (.slice A2 m c2) := ra.cell rfl
            have HX := Lib.hid (htx.below ba)
            have HA := Lib.hid (hQ.out.trans (ba.mono hQ.out.size))
            have HBa := Lib.hid (hB.out.trans (HA.out.mono hB.out.size))
            clear ba ra htx hc0 hc1 q0 q1 hB2
            generalize T nm = S at *
            obtain ⟨q, hq⟩ : ∃ q, S.size = q := ⟨_, rfl⟩
            by_cases h1 : 100 < q
            · have h1i : (100 : Int) < (q : Int) := by omega
              go_wp2
              go_ret
              exact ⟨false, rfl, (fun h => Bool.noConfusion h), HE.out _ HBa.out⟩
            have h1i : ¬ (100 : Int) < (q : Int) := by omega
            by_cases h2 : 100 < m
            · have h2i : (100 : Int) < (m : Int) := by omega
              go_wp2
              go_ret
              exact ⟨false, rfl, (fun h => Bool.noConfusion h), HE.out _ HBa.out⟩
            have h2i : ¬ (100 : Int) < (m : Int) := by omega
            go_upto_region 14 with fail
            go_loopw [7] (fun vq ws => ∃ t : Nat, vq = .int .i64 (t : Int) ∧ t ≤ m ∧ wa = ws) (fun vq _ => m - (intOf vq).toNat)
            case atStart => exact ⟨0, rfl, by omega, rfl⟩
            case round =>
              obtain ⟨t, rfl, ht, rfl⟩ := hrel
              by_cases htm : t < m
              · have hti : (t : Int) < (m : Int) := by omega
                obtain ⟨b3, off3, rfl, hbl3, hc3⟩ := HX.out t (by have := HMl.out; omega)
                generalize T (vs.getD t []) = S3 at *
                obtain ⟨q3, hq3⟩ : ∃ q3, S3.size = q3 := ⟨_, rfl⟩
                by_cases h3 : 300 < q3
                · have h3i : (300 : Int) < (q3 : Int) := by omega
                  go_wp2
                  go_ret
                  exact ⟨false, rfl, (fun h => Bool.noConfusion h), HE.out _ HBa.out⟩
                · have h3i : ¬ (300 : Int) < (q3 : Int) := by omega
                  go_wp2
                  go_roundw
                  case rel => exact ⟨t + 1, by go_num, by omega, trivial⟩
                  case measure => simp [intOf]; omega
              · have hti : ¬ (t : Int) < (m : Int) := by omega
                go_wp2
                go_roundw
                case rel => exact ⟨_, j + 1, rfl, by go_num, by omega, by omega, by omega, by omega, HA⟩
                case measure => simp [intOf]; omega
          · have h50i : ¬ (j : Int) < 50 := by omega
            by_cases hy : 100 < y
            · go_wp2
              go_ret
              exact ⟨false, rfl, (fun h => Bool.noConfusion h), HE.out _ hB2⟩
            · go_wp2
              go_roundw
              case rel => exact ⟨_, k + 1, rfl, by go_num, by omega, by have h1 := HSk.out; have h2 := HZ1.out; omega, by omega, Lib.hid hB2⟩
              case measure => simp [intOf]; omega
        · have hji : ¬ (j : Int) < (r : Int) := by omega
          by_cases hy : 100 < y
          · go_wp2
            go_ret
            exact ⟨false, rfl, (fun h => Bool.noConfusion h), HE.out _ hB2⟩
          · go_wp2
            go_roundw
            case rel => exact ⟨_, k + 1, rfl, by go_num, by omega, by have h1 := HSk.out; have h2 := HZ1.out; omega, by omega, Lib.hid hB2⟩
            case measure => simp [intOf]; omega
    · have hge : ¬ (k : Int) < (n : Int) := by omega
      go_wp2
      go_ret
      exact ⟨true, rfl, fun _ => (by have h1 := HSn.out k (by have := HL.out; omega); have h2 := HZ1.out; omega), HE.out _ hB.out⟩
end Go.Proofs.Ytpfkhcgeblihcaa.Udj
