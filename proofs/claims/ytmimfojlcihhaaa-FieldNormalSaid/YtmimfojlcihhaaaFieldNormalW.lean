/-
  The walk of FieldNormal.
-/
import Derived.Test.YtmimfojlcihhaaaPq
import Derived.Test.YtmimfojlcihhaaaPm
import Derived.Deep.RegionLaw
namespace Go.Proofs.Ytmimfojlcihhaaa.FieldNormalW
open Go.ChangeShapes Go.WideShapes Go.ChangeAt Go.RowKit
open Bytes8 Blk8 Own8 OwnE Fa Fb Fc Fo Ff In8 Rows2 Seq8 SeqP Pr8 Pa8 Pb8 Pu8 Ps8 Pl8 Pm8 Pq8
set_option linter.unusedVariables false
set_option linter.unusedSimpArgs false

theorem seq_new {w : World} {a : Option Addr} {len cap : Nat} {f : Nat → Int} (g : Nat) (hg : w.heap.size = g) (h : InInts .i64 w a len f) (hl : len ≤ 9223372036854775807) (hlt : 0 < len → ∀ b off, a = some ⟨b, off, none⟩ → b ≠ g) :
    SeqIn (w.alloc (.cells #[.slice a len cap, .int .i64 0] 48)) g a len cap f 0 := by
  subst hg
  exact ⟨Blk.new w _ _, h.below ((Below.refl _ _).alloc (Nat.le_refl _) _), hlt, Nat.zero_le _, hl⟩

theorem list_is (a : Option Addr) (l X : List PR) (len cap : Nat) (w : World) (hP : Prs w a l) (hL : l.length = len) (hmax : len ≤ 100000) (he : listE l = 0) (hl : listL l = X) :
    Calls Try.prog 20 #[.slice a len cap] w fun e w' => ∃ A c, e = .returned (.tuple #[.slice A X.length c, .int .i64 0]) ∧ Prs w' A X ∧ Below w.heap.size w w' :=
  (list_any a l len cap w hP hL hmax).mono fun e w' h => by unfold Listed at h; rwa [hl, he] at h
theorem sub_all {l m : List PR} (h : ∀ p, p ∈ l → p ∈ m) : subB l m = true := List.all_eq_true.2 fun p hp => by simpa using h p hp
theorem rises_at {l : List PR} (h : Rises l) {k : Nat} (hk : k + 1 < l.length) : ltP (l.getD k nil2) (l.getD (k + 1) nil2) = true := by
  have := List.pairwise_iff_getElem.1 h k (k + 1) (by omega) hk (by omega)
  rwa [List.getD_eq_getElem?_getD, List.getD_eq_getElem?_getD, List.getElem?_eq_getElem hk, List.getElem?_eq_getElem (show k < l.length by omega)]

theorem walk_long (a : Option Addr) (len cap : Nat) (w : World) (h : 60 < len) :
    Calls Try.prog 7 #[.slice a len cap] w fun e w' => e = .returned (.bool true) ∧ Below w.heap.size w w' := by
  go_enter Try.func7, Try.ntmps7
  go_wp2_with (go_at_call 8; (with_reducible refine (first_any _).mono ?_); rintro e w1 ⟨rfl, hbel⟩; have B1 := Lib.hid hbel; clear hbel)
  go_ret
  exact ⟨rfl, B1.out⟩

set_option maxHeartbeats 8000000 in
set_option maxRecDepth 100000 in
theorem walk_main (a : Option Addr) (len cap : Nat) (f : Nat → Int) (w : World) (hin : InInts .i64 w a len f) (hl : len ≤ 60) :
    Calls Try.prog 7 #[.slice a len cap] w fun e w' => e = .returned (.bool true) ∧ Below w.heap.size w w' := by
  have HI := Lib.hid hin
  have HLt : Hid (0 < len → ∀ b off, a = some ⟨b, off, none⟩ → b < w.heap.size) := Lib.hid fun h b off e => by
    obtain ⟨b', off', e', h1, _⟩ := hin 0 h
    rw [e] at e'; simp at e'; rw [e'.1]; exact h1
  have hmx : Try.prog.follows .mixedOrders = true := by kernel_rfl
  clear hin
  go_enter Try.func7, Try.ntmps7
  go_wp2_with (first
    | (go_at_call 8; (with_reducible refine (first_any _).mono ?_); rintro e w1 ⟨rfl, hbel⟩; have B1 := Lib.hid (hbel.alloc hbel.size (.cells #[.slice a len cap, .int .i64 0] 48)); have G1 := Lib.hid hbel.size; have S1 := Lib.hid (seq_new (cap := cap) w1.heap.size rfl (HI.out.below hbel) (by omega) (fun h b off e => by have := HLt.out h b off e; have := hbel.size; omega)); clear hbel)
    | (go_at_call 29; (with_reducible refine (pairs_any w1.heap.size a len cap f 0 _ S1.out).mono ?_); rintro e w2 ⟨P, A, c, k2, rfl, hO, ⟨hR, hp0, hp16⟩, hS, hK⟩; have PO := Lib.hid hO; have PR2 := Lib.hid hR; have B2 := Lib.hid (B1.out.trans ((hK.mono B1.out.size).below G1.out)); clear hS hK hO hR))
  obtain ⟨g, rfl⟩ := own_some PO.out hp0
  have HP := Lib.hid PO.out.prs
  have HPB := Lib.hid (show w.heap.size ≤ w2.heap.size from B2.out.size)
  clear HI HLt S1 B1 G1 PO
  generalize hn : P.length = n at *
  have HN := Lib.hid hn
  clear hn
  go_loopw [6, 7] (fun s i wr => ∃ (m nb : Nat) (Ab : Option Addr) (cb : Nat) (B : List PR), m ≤ n ∧ i = .int .i64 ((m : Int) - 1) ∧ s = .slice Ab nb cb ∧ nb + 2 * m = 2 * n ∧ Hid (OwnP wr w2.heap.size Ab nb cb B) ∧ Hid (∀ q, q ∈ B → q ∈ P) ∧ Hid (∀ t, m ≤ t → t < n → P.getD t nil2 ∈ B) ∧ Hid (Below w2.heap.size w2 wr)) (fun _ i _ => (intOf i + 1).toNat)
  case atStart => exact ⟨n, 0, none, 0, [], Nat.le_refl _, by go_num, rfl, by omega, Lib.hid (OwnP.nil w2 _ (Nat.le_refl _)), Lib.hid (fun q hq => by cases hq), Lib.hid (fun t h1 h2 => by omega), Lib.hid (Below.refl _ _)⟩
  case round =>
    obtain ⟨m, nb, Ab, cb, B, hm, rfl, rfl, hnb, hO, hsub, hsup, hB⟩ := hrel
    cases m with
    | zero =>
      have hlenB := hO.out.2.1
      have hmem : ∀ q, q ∈ B ↔ q ∈ P := fun q => ⟨hsub.out q, fun hq => by
        obtain ⟨t, ht, rfl⟩ := mem_getD hq
        exact hsup.out t (by omega) (by have := HN.out; omega)⟩
      have hRB : ∀ q ∈ B, okR q := fun q hq => PR2.out q (hsub.out q hq)
      obtain ⟨X, hX⟩ : ∃ X, X = sortP (ded P) := ⟨_, rfl⟩
      have hXm : ∀ q, q ∈ X ↔ q ∈ P := fun q => by rw [hX]; exact list_mem P q
      have hRX : ∀ q ∈ X, okR q := fun q hq => PR2.out q ((hXm q).1 hq)
      have hXr : Rises X := by rw [hX]; exact list_rises PR2.out
      have hd16 : (ded P).length ≤ 16 := Nat.le_trans (ded_len P) (by have := HN.out; omega)
      have hXlen : X.length ≤ 16 := by rw [hX, sortP_len]; exact hd16
      have hX0 : 0 < X.length := List.length_pos_of_mem ((hXm _).2 (getD_mem' (l := P) (i := 0) (by have := HN.out; omega)))
      obtain ⟨e1, l1⟩ := list_fine PR2.out (by have := HN.out; omega) hd16
      obtain ⟨e2, l2⟩ := list_fine hRB (by omega) (Nat.le_trans (ded_len_same fun q hq => (hmem q).1 hq) hd16)
      obtain ⟨e3, l3⟩ := list_fine hRX hX0 (Nat.le_trans (ded_len X) hXlen)
      have x2 : listL B = X := by rw [l2, hX]; exact list_same hRB PR2.out hmem
      have x3 : listL X = X := by rw [l3]; exact rises_eq _ _ (list_rises hRX) hXr fun q => list_mem X q
      have H1 := Lib.hid fun w (h : Prs w (some ⟨g, 0, none⟩) P) => list_is (some ⟨g, 0, none⟩) P X n c w h HN.out (by omega) e1 (l1.trans hX.symm)
      have H2 := Lib.hid fun w (h : Prs w Ab B) => list_is Ab B X nb cb w h hlenB (by omega) e2 x2
      have H3 := Lib.hid fun A c w (h : Prs w A X) => list_is A X X X.length c w h rfl (by omega) e3 x3
      have H4 := Lib.hid fun A c w (h : Prs w A X) (k : Prs w (some ⟨g, 0, none⟩) P) => same_pairs A (some ⟨g, 0, none⟩) X P X.length n c c w h k rfl HN.out (by omega) (by omega)
      have H4c := Lib.hid fun A d w (h : Prs w A X) (k : Prs w (some ⟨g, 0, none⟩) P) => same_pairs A (some ⟨g, 0, none⟩) X P X.length n d c w h k rfl HN.out (by omega) (by omega)
      rw [sub_all fun q hq => (hXm q).1 hq, sub_all fun q hq => (hXm q).2 hq] at H4c
      have H5 := Lib.hid fun A B c d w (h : Prs w A X) (k : Prs w B X) => spairs_any A B X X X.length X.length c d w h k rfl rfl (by omega) (by omega)
      rw [decide_eq_true (by rfl : X = X)] at H5
      have HRise := Lib.hid fun k hk => rises_at (k := k) hXr hk
      have HRX := Lib.hid hRX
      have HPw := Lib.hid (HP.out.below hB.out)
      have HBw := Lib.hid hO.out.prs
      have HW := Lib.hid (B2.out.trans (hB.out.mono HPB.out))
      clear hlenB hmem hRB hX hXm hRX hXr hd16 e1 l1 e2 l2 e3 l3 x2 x3 H4 HP PR2 hO hsub hsup hB B2 HPB
      generalize hlx : X.length = lx at *
      have HLX := Lib.hid hlx
      clear hlx
      go_wp2_with (first
        | (go_at_call 20; (with_reducible refine (H1.out _ HPw.out).mono ?_); rintro e w3 ⟨A3, c3, rfl, hx, hb⟩; have X3 := Lib.hid hx; have P3 := Lib.hid (HPw.out.below hb); have D3 := Lib.hid (HBw.out.below hb); have W3 := Lib.hid (HW.out.trans (hb.mono HW.out.size)); clear hx hb)
        | (go_at_call 20; (with_reducible refine (H2.out _ D3.out).mono ?_); rintro e w4 ⟨A4, c4, rfl, hy, hb⟩; have Y4 := Lib.hid hy; have X4 := Lib.hid (X3.out.below hb); have P4 := Lib.hid (P3.out.below hb); have W4 := Lib.hid (W3.out.trans (hb.mono W3.out.size)); clear hy hb)
        | (go_at_call 20; (with_reducible refine (H3.out A3 c3 _ X4.out).mono ?_); rintro e w5 ⟨A5, c5, rfl, hz, hb⟩; have Z5 := Lib.hid hz; have Y5 := Lib.hid (Y4.out.below hb); have X5 := Lib.hid (X4.out.below hb); have P5 := Lib.hid (P4.out.below hb); have W5 := Lib.hid (W4.out.trans (hb.mono W4.out.size)); clear hz hb))
      go_loopw [14] (fun i wr => ∃ k : Nat, i = .int .i64 ((k : Int) + 1) ∧ k + 1 ≤ lx + 1 ∧ Hid (Below w5.heap.size w5 wr)) (fun i _ => lx + 1 - (intOf i).toNat)
      case atStart => exact ⟨0, rfl, by omega, Lib.hid (Below.refl _ _)⟩
      case round =>
        obtain ⟨k, rfl, hk, hB⟩ := hrel
        have HXl := Lib.hid hX0
        rcases Nat.lt_or_ge (k + 1) lx with hlt | hge
        · have hin : (k : Int) + 1 < (lx : Int) := by omega
          have hin0 : (k : Int) < (lx : Int) := by omega
          have hw : IntKind.i64.wrap (k : Int) = (k : Int) := by rw [IntKind.wrap_i64]; omega
          have hge0 : (0 : Int) ≤ (k : Int) + 1 := by omega
          have htn : ((k : Int) + 1).toNat = k + 1 := by omega
          have hXk := X5.out.below hB.out
          obtain ⟨b1, off1, rfl, hbl1, hc0, hc1⟩ := hXk.2 k (by have := HLX.out; omega)
          obtain ⟨b2, off2, eb, hbl2, hd0, hd1⟩ := hXk.2 (k + 1) (by have := HLX.out; omega)
          simp at eb
          obtain ⟨rfl, rfl⟩ := eb
          have hr1 := HRX.out _ (getD_mem' (l := X) (i := k) (by have := HLX.out; omega))
          have hr2 := HRX.out _ (getD_mem' (l := X) (i := k + 1) (by have := HLX.out; omega))
          obtain ⟨q1, q2⟩ := flaw_len hr1.2.2
          obtain ⟨q3, q4⟩ := flaw_len hr2.2.2
          have HLs := Lib.hid fun w => less_any (X.getD k nil2).1 (X.getD k nil2).2 (X.getD (k + 1) nil2).1 (X.getD (k + 1) nil2).2 hr1.1 hr1.2.1 hr2.1 hr2.2.1 (by omega) (by omega) w
          rw [show lessP (X.getD k nil2).1 (X.getD k nil2).2 (X.getD (k + 1) nil2).1 (X.getD (k + 1) nil2).2 = true from HRise.out k hlt] at HLs
          dsimp only [pv] at HLs
          have HB := Lib.hid hB.out
          clear hXk hr1 hr2 q1 q2 q3 q4
          generalize T (X.getD k nil2).1 = E1 at *
          generalize T (X.getD k nil2).2 = E2 at *
          generalize T (X.getD (k + 1) nil2).1 = F1 at *
          generalize T (X.getD (k + 1) nil2).2 = F2 at *
          have p0 := cell_grown hbl1 hc0
          have p1 := cell_grown hbl1 hc1
          have p2 := cell_grown hbl1 hd0
          have p3 := cell_grown hbl1 hd1
          clear hc0 hc1 hd0 hd1
          have K1 : Hid (∀ q os, Calls Try.prog 18 #[.agg #[.string E1, .string E2], .agg #[.string F1, .string F2]] (Sort.grow (wr.drewN q) os) fun e w' => e = .returned (.bool true) ∧ ∃ q' os', w' = Sort.grow ((Sort.grow (wr.drewN q) os).drewN q') os') := Lib.hid fun q os => HLs.out _
          go_wp2_with fail
          go_quiet_grown (first | (go_at_call 18; with_reducible refine Calls.grown_of (K1.out _ _)))
          go_wp2
          go_round
          case rel => exact ⟨k + 1, by go_num, by omega, Lib.hid (HB.out.trans (Below.mono (Grew.below ⟨nq, osq, rfl⟩) HB.out.size))⟩
          case measure => simp [intOf]; omega
        · have hin : ¬ (k : Int) + 1 < (lx : Int) := by omega
          have P6 := Lib.hid (P5.out.below hB.out)
          have X6 := Lib.hid (X5.out.below hB.out)
          have Y6 := Lib.hid (Y5.out.below hB.out)
          have Z6 := Lib.hid (Z5.out.below hB.out)
          have W6 := Lib.hid (W5.out.trans (hB.out.mono W5.out.size))
          go_wp2_with (first
            | (go_at_call 26; (with_reducible refine (H4c.out A3 c3 _ X6.out P6.out).mono ?_); rintro e w7 ⟨rfl, hb⟩; have X7 := Lib.hid (X6.out.below hb); have Y7 := Lib.hid (Y6.out.below hb); have Z7 := Lib.hid (Z6.out.below hb); have W7 := Lib.hid (W6.out.trans (hb.mono W6.out.size)); clear hb)
            | (go_at_call 22; (with_reducible refine (H5.out A3 A4 c3 c4 _ X7.out Y7.out).mono ?_); rintro e w8 ⟨rfl, hb⟩; have X8 := Lib.hid (X7.out.below hb); have Z8 := Lib.hid (Z7.out.below hb); have W8 := Lib.hid (W7.out.trans (hb.mono W7.out.size)); clear hb)
            | (go_at_call 22; (with_reducible refine (H5.out A3 A5 c3 c5 _ X8.out Z8.out).mono ?_); rintro e w9 ⟨rfl, hb⟩; have W9 := Lib.hid (W8.out.trans (hb.mono W8.out.size)); clear hb))
          go_ret
          exact ⟨rfl, W9.out⟩
    | succ m =>
      have e : ((m + 1 : Nat) : Int) - 1 = (m : Int) := by omega
      obtain ⟨b1, off1, ea, hbl1, hc0, hc1⟩ := (HP.out.below hB.out).2 m (by have := HN.out; omega)
      obtain ⟨b2, off2, eb, hbl2, hd0, hd1⟩ := (HP.out.below hB.out).2 0 (by have := HN.out; omega)
      simp at ea eb
      obtain ⟨rfl, rfl⟩ := ea
      obtain ⟨rfl, rfl⟩ := eb
      simp only [Nat.zero_add, Nat.zero_mul] at hc0 hc1 hd0 hd1
      have HM1 := Lib.hid (getD_mem' (l := P) (i := m) (by have := HN.out; omega))
      have HM0 := Lib.hid (getD_mem' (l := P) (i := 0) (by have := HN.out; omega))
      have HCe := Lib.hid (show cellsP [P.getD m nil2, P.getD 0 nil2] = [.string (T (P.getD m nil2).1), .string (T (P.getD m nil2).2), .string (T (P.getD 0 nil2).1), .string (T (P.getD 0 nil2).2)] from rfl)
      have hin : (m : Int) < (n : Int) := by omega
      rw [e]
      clear e
      generalize T (P.getD m nil2).1 = E1 at *
      generalize T (P.getD m nil2).2 = E2 at *
      generalize T (P.getD 0 nil2).1 = F1 at *
      generalize T (P.getD 0 nil2).2 = F2 at *
      go_wp2_with fail
      go_region_law (refine step_append_elt pairElt (o := ⟨some 43, _, _, _, _, _⟩) rfl (.tmp 34) (.tmp 42) rfl w2.heap.size Ab nb cb (cellsP B) rfl ((hO.out.2.2.alloc (.cells #[.string E1, .string E2, .string F1, .string F2] 24)).drew) ⟨wr.heap.size, 0, none⟩ 2 2 [.string E1, .string E2, .string F1, .string F2] rfl rfl (Blk.news (Blk.new wr [.string E1, .string E2, .string F1, .string F2] 24).drew) (by intro u hu; simp at hu; rcases hu with rfl | rfl | rfl | rfl <;> rfl) (by omega) (by omega) ?_; intro A2 c2 w3 ho2 hbel2; have HO4 := Lib.hid ho2; have HB4 := Lib.hid ((((hB.out.alloc hB.out.size (.cells #[.string E1, .string E2, .string F1, .string F2] 24)).drew).trans hbel2)); clear ho2 hbel2)
      all_goals
        go_wp2
        go_round
        case rel =>
          refine ⟨m, nb + 2, A2, c2, B ++ [P.getD m nil2, P.getD 0 nil2], by omega, by go_num, rfl, by omega, Lib.hid ⟨?_, ?_, ?_⟩, Lib.hid ?_, Lib.hid ?_, HB4⟩
          · intro q hq
            rcases List.mem_append.1 hq with h | h
            · exact hO.out.1 q h
            · simp only [List.mem_cons, List.not_mem_nil, or_false] at h
              rcases h with rfl | rfl
              · exact okR_okP (PR2.out _ HM1.out)
              · exact okR_okP (PR2.out _ HM0.out)
          · rw [List.length_append, hO.out.2.1]; rfl
          · rw [cellsP_app, HCe.out]; exact HO4.out
          · intro q hq
            rcases List.mem_append.1 hq with h | h
            · exact hsub.out q h
            · simp only [List.mem_cons, List.not_mem_nil, or_false] at h
              rcases h with rfl | rfl
              · exact HM1.out
              · exact HM0.out
          · intro t h1 h2
            rcases Nat.lt_or_ge m t with h3 | h3
            · exact List.mem_append_left _ (hsup.out t (by omega) h2)
            · obtain rfl : t = m := by omega
              exact List.mem_append_right _ (by simp)
        case measure => simp [intOf] <;> omega

theorem walk (a0 : Option Addr) (len0 cap0 : Nat) (z0 : List Int) (w : World) (w0 : IsRow .i64 w a0 len0 cap0 z0) :
    Calls Try.prog 7 #[.slice a0 len0 cap0] w fun e w' => e = .returned (.bool true) ∧ Below w.heap.size w w' := by
  obtain ⟨hI, h1, h2⟩ := ints_in w0
  by_cases h : 60 < len0
  · exact walk_long a0 len0 cap0 w h
  · exact walk_main a0 len0 cap0 _ w hI (by omega)
end Go.Proofs.Ytmimfojlcihhaaa.FieldNormalW
