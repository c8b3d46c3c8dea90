/-
  Texts beneath the proof, one behind the other.
-/
import Derived.Test.YtbfogcfgcoljkaaQ8
import Derived.Test.YtbfogcfgcoljkaaQ4

/-
  The walk of MatchRows.
-/
namespace Go.Proofs.Ytbfogcfgcoljkaa.MatchRowsW
open Go.ChangeShapes Go.WideShapes Go.ChangeAt Go.RowKit
open Bytes8 Blk8 Own8 OwnE Fa Fb Fc Fo Pr8 Pv8 Pb8 Qa Qb Qc Qn Numb Rows2
open Qd (mtV alt_ok row_ok)
open Qm (compile_any Compd)
open Qo (holds_any)
open Qq (words_any Worded)
open Qr (first_any pairs6_any Made6)
open Qs (compM_ok compM_some)
open Qp (comp_fine FW PW)
open Seq8
open Pq8 (okR_okP)
open Ps8 (okR)
set_option linter.unusedVariables false
set_option maxRecDepth 100000
set_option linter.unusedSimpArgs false

theorem sub_one (p : PR) (l : List PR) : subB [p] l = decide (p ∈ l) := by unfold subB; simp
theorem any_step {α : Type} {f : α → Bool} {l : List α} {d : α} {k : Nat} (hk : k < l.length) : (l.take (k + 1)).any f = ((l.take k).any f || f (l.getD k d)) := by
  rw [List.take_add_one, List.getElem?_eq_getElem hk, List.getD_eq_getElem?_getD, List.getElem?_eq_getElem hk]
  simp only [List.any_append, Option.toList_some, List.any_cons, List.any_nil, Bool.or_false, Option.getD_some]
theorem all_step {α : Type} {f : α → Bool} {l : List α} {d : α} {k : Nat} (hk : k < l.length) : (l.take (k + 1)).all f = ((l.take k).all f && f (l.getD k d)) := by
  rw [List.take_add_one, List.getElem?_eq_getElem hk, List.getD_eq_getElem?_getD, List.getElem?_eq_getElem hk]
  simp only [List.all_append, Option.toList_some, List.all_cons, List.all_nil, Bool.and_true, Option.getD_some]
theorem prs_one {w : World} {g : Nat} {n v : TX} (h : Blk w g [.string (T n), .string (T v)] 45) (hp : okP (n, v)) : Prs w (some ⟨g, 0, none⟩) [(n, v)] := by
  refine ⟨fun p hp' => by rw [List.mem_singleton.1 hp']; exact hp, fun i hi => ?_⟩
  obtain rfl : i = 0 := by simpa using hi
  exact ⟨g, 0, rfl, h.lt, h.cell rfl, h.cell rfl⟩
theorem seq_new {w : World} {a : Option Addr} {len cap : Nat} {f : Nat → Int} (hI : InInts .i64 w a len f) (hlen : len ≤ 9223372036854775807) : SeqIn (w.alloc (.cells #[.slice a len cap, .int .i64 0] 41)) w.heap.size a len cap f 0 :=
  ⟨Blk.new w [.slice a len cap, .int .i64 0] 41, hI.below ((Below.refl w.heap.size w).alloc (Nat.le_refl _) _), fun h0 b off e => by
    obtain ⟨b', off', e', hlt, _⟩ := hI 0 h0
    rw [e] at e'
    injection e' with e'
    injection e' with e' _
    omega, Nat.zero_le _, hlen⟩
/-- Pairs that a call makes out of a new maker. -/
def MadeQ (w : World) (e : Ending) (w' : World) : Prop := ∃ (L : List PR) (A : Option Addr) (c : Nat), e = .returned (.slice A L.length c) ∧ Prs w' A L ∧ L.length ≤ 6 ∧ Below w.heap.size w w'
theorem pairs_new {w : World} {a : Option Addr} {len cap : Nat} {f : Nat → Int} (hI : InInts .i64 w a len f) (hlen : len ≤ 9223372036854775807) :
    Calls Try.prog 21 #[.pointer (some ⟨w.heap.size, 0, none⟩), .int .i64 6] (w.alloc (.cells #[.slice a len cap, .int .i64 0] 41)) (MadeQ w) :=
  (pairs6_any w.heap.size a len cap f 0 _ (seq_new hI hlen)).mono fun e w' ⟨L, A, c, h1, h2, h3, h4⟩ => ⟨L, A, c, h1, h2.prs, h3.2, ((Below.refl w.heap.size w).alloc (Nat.le_refl _) _).trans ((h4.mono (by simp)).below (Nat.le_refl _))⟩

theorem mts_one {w : World} {M : List RW} {k b off : Nat} (h : Mts w (some ⟨b, off, none⟩) M) (hk : k < M.length) : Mts w (some ⟨b, off + k, none⟩) [M.getD k []] := fun i hi => by
  obtain rfl : i = 0 := by simpa using hi
  obtain ⟨b', off', A, c, e, h1, h2, h3⟩ := h k hk
  injection e with e; injection e with e1 e2; subst e1; subst e2
  exact ⟨b, off + k, A, c, rfl, h1, h2, h3⟩
theorem elemR : Try.prog.elem 23 = 48 := by kernel_rfl
theorem sizeofR (w : World) : (sizeOf 48).run Try.prog w = .ok 1 w := by
  obtain ⟨i, hi, hzz⟩ := Option.map_eq_some_iff.1 Qj.rowElt.info
  simp only [Prod.mk.injEq] at hzz
  simp [sizeOf, typeInfo, hi, hzz]
theorem cut_one (b off m c k : Nat) (hk : k < m) (hc : m ≤ c) (w : World) :
    (Instr.slice 23 (.slice (some ⟨b, off, none⟩) m c) (some (.int .i64 (k : Int))) (some (.int .i64 ((k : Int) + 1))) none).run Try.prog w = .ok (.slice (some ⟨b, off + k, none⟩) 1 (c - k)) w := by
  have h := sliced_one 23 (some ⟨b, off, none⟩) m c k (k + 1) w (by rw [elemR]; exact sizeofR w) (by rw [elemR]; exact Try.underlying23) (by omega) (by omega)
  rw [cutA_some, if_neg (by omega), show k + 1 - k = 1 by omega] at h
  exact h
set_option maxHeartbeats 16000000 in
theorem walk (a0 : Option Addr) (len0 cap0 : Nat) (z0 : List Int) (a1 : Option Addr) (len1 cap1 : Nat) (z1 : List Int) (w : World) (w0 : IsRow .i64 w a0 len0 cap0 z0) (w1 : IsRow .i64 w a1 len1 cap1 z1) :
    Calls Try.prog 6 #[.slice a0 len0 cap0, .slice a1 len1 cap1] w fun e w' => e = .returned (.bool true) ∧ Below w.heap.size w w' := by
  obtain ⟨hI0, hc0, hm0⟩ := ints_in w0
  obtain ⟨hI1, hc1, hm1⟩ := ints_in w1
  unfold maxLen at hm0 hm1
  have HW := Lib.hid fun (W : World) (h : Below w.heap.size w W) => show Calls Try.prog 20 #[.slice a0 len0 cap0, .int .i64 15] W (Worded 15 W) from words_any a0 len0 cap0 _ 15 W (hI0.below h) (by omega) (by decide)
  have HPr := Lib.hid fun (W : World) (h : Below w.heap.size w W) => pairs_new (w := W) (cap := cap1) (hI1.below h) (by omega)
  unfold Worded at HW
  unfold MadeQ at HPr
  clear w0 w1 hI0 hI1
  go_enter Try.func6, Try.ntmps6
  go_upto_region 6 with (first
    | (go_at_call 7; (with_reducible refine (first_any _).mono ?_); rintro e w1 ⟨rfl, hb⟩; have B1 := Lib.hid hb; clear hb)
    | (go_at_call 20; (with_reducible refine (HW.out _ B1.out).mono ?_); rintro e w2 ⟨ws, Aw, cw, rfl, ho, hf, hl15, hb⟩; have HT := Lib.hid ho.txts; have HF := Lib.hid hf; have B2 := Lib.hid (B1.out.trans (hb.mono B1.out.size)); clear ho hf hb)
    | (go_at_call 21; (with_reducible refine (HPr.out _ B2.out).mono ?_); rintro e w3 ⟨l, Al, cl, rfl, hp, hl6, hb⟩; have HP := Lib.hid hp; have HT3 := Lib.hid (HT.out.below hb); have B3 := Lib.hid (B2.out.trans (hb.mono B2.out.size)); clear hp hb))
  have HC := Lib.hid (compile_any Aw ws ws.length cw w3 HT3.out rfl HF.out.1.all (by omega))
  have he := comp_fine HF.out (by omega)
  have HOM := Lib.hid (compM_ok HF.out.1.all)
  have HSM := Lib.hid (compM_some he)
  have HZM : Hid (ws = [] → (compM ws).2 = []) := Lib.hid fun h => by subst h; rfl
  unfold Compd at HC
  rw [he] at HC
  clear he HW HPr HT HT3 HF
  generalize (compM ws).2 = M at *
  obtain ⟨m, hm⟩ : ∃ m, M.length = m := ⟨_, rfl⟩
  obtain ⟨nl, hnl⟩ : ∃ nl, l.length = nl := ⟨_, rfl⟩
  obtain ⟨nw, hnw⟩ : ∃ nw, ws.length = nw := ⟨_, rfl⟩
  have HML := Lib.hid hm
  have HLL := Lib.hid hnl
  have HWL := Lib.hid hnw
  rw [hnw] at HC hl15 ⊢
  rw [hm] at HC
  rw [hnl] at hl6 ⊢
  clear hm hnl hnw
  go_upto_region 7 with (go_at_call 9; (with_reducible refine HC.out.mono ?_); rintro e w4 ⟨A, c, rfl, hmt, hb, hcap⟩; have HM := Lib.hid hmt; have HP4 := Lib.hid (HP.out.below hb); have B4 := Lib.hid (B3.out.trans (hb.mono B3.out.size)); clear hmt hb)
  have R5 := Lib.hid (Blk.new w4 [.slice A m c] 25)
  have b5 := (Below.refl w4.heap.size w4).alloc (Nat.le_refl _) (.cells #[.slice A m c] 25)
  have HM5 := Lib.hid (HM.out.below b5)
  have HP5 := Lib.hid (HP4.out.below b5)
  have B5 := Lib.hid (B4.out.trans (b5.mono B4.out.size))
  clear b5 HM HP4 HP B4 B3 HC
  change Hid (Blk (w4.alloc (.cells #[.slice A m c] 25)) _ _ _) at R5
  generalize w4.alloc (.cells #[.slice A m c] 25) = w5 at *
  generalize w4.heap.size = g5 at *
  have HH := Lib.hid fun (W : World) (hW : Below w5.heap.size w5 W) => holds_any l Al nl cl M A c W (HP5.out.below hW) HLL.out (by omega) (HM5.out.below hW) HOM.out
  dsimp only [mtV] at HH
  rw [HML.out] at HH
  have r5 := R5.out.cell (i := 0) rfl
  by_cases hw0 : nw = 0
  · have hM0 : M = [] := HZM.out (List.eq_nil_of_length_eq_zero (HWL.out.trans hw0))
    have HR := Lib.hid (show holdB l M = true by rw [hM0]; rfl)
    have HH5 := HH.out w5 (Below.refl _ _)
    rw [HR.out] at HH5
    have HH6 := Lib.hid HH5
    subst hw0
    clear hM0 HH HH5
    go_wp2_with (go_at_call 17; (with_reducible refine HH6.out.mono ?_); rintro e w6 ⟨rfl, hb⟩; have B6 := Lib.hid (B5.out.trans (hb.mono B5.out.size)); clear hb)
    go_ret
    exact ⟨rfl, B6.out⟩
  · have hz : ((nw : Int) == 0) = false := by simp; omega
    have hMne : M ≠ [] := HSM.out (fun h => hw0 (by rw [← HWL.out, h]; rfl))
    have HF := Lib.hid (show holdB l M = M.any (rowB l) by
      unfold holdB
      rcases M with _ | ⟨x, M⟩
      · exact absurd rfl hMne
      · rfl)
    have hmb : m ≤ 9223372036854775807 := by have := HOM.out.2; rw [HML.out] at this; unfold maxLen at this; omega
    clear hw0 hMne HSM HZM
    go_wp2_with fail
    go_loopw [10, 11] (fun z i wr => ∃ k : Nat, k ≤ m ∧ i = .int .i64 (k : Int) ∧ z = .bool ((M.take k).any (rowB l)) ∧ Hid (Below w5.heap.size w5 wr)) (fun _ i _ => m - (intOf i).toNat)
    case atStart => exact ⟨0, by omega, rfl, rfl, Lib.hid (Below.refl _ _)⟩
    case round =>
      clear r5
      obtain ⟨k, hk, rfl, rfl, hB⟩ := hrel
      have s5 := (R5.out.below hB.out R5.out.lt).cell (i := 0) rfl
      rcases Nat.lt_or_ge k m with hlt | hge
      · obtain ⟨b, off, A1, c1, rfl, hbl, k0, hA1⟩ := HM5.out k (by have := HML.out; omega)
        have hin : (k : Int) < (m : Int) := by omega
        have HK0 := Lib.hid fun (W : World) (hW : Below w5.heap.size w5 W) => (hW.cell (p := ⟨b, off + k, none⟩) hbl).trans k0
        have hro := row_ok HOM.out (i := k) (by have := HML.out; omega)
        have hrn := hro.2
        unfold maxLen at hrn
        have HRo := Lib.hid hro
        have HSt := Lib.hid (any_step (f := rowB l) (d := []) (l := M) (k := k) (by have := HML.out; omega))
        have HOn := Lib.hid fun (W : World) (hW : Below w5.heap.size w5 W) => holds_any l Al nl cl [M.getD k []] (some ⟨b, off + k, none⟩) (c - k) W (HP5.out.below hW) HLL.out (by omega) (mts_one (HM5.out.below hW) (by have := HML.out; omega)) ⟨fun r h => by rw [List.mem_singleton.1 h]; exact hro, by show 1 ≤ maxLen; decide⟩
        have hsl := cut_one b off m c k hlt (by omega)
        have HA1 := Lib.hid hA1
        dsimp only [mtV, List.length] at HOn
        have HRB := Lib.hid (show holdB l [M.getD k []] = rowB l (M.getD k []) by unfold holdB; simp)
        rw [HRB.out] at HOn
        clear hA1 hro HRB
        obtain ⟨r, hr⟩ : ∃ r, M.getD k [] = r := ⟨_, rfl⟩
        rw [hr] at HK0 HRo HSt HOn HA1 hrn
        rw [hr] at k0
        clear hr
        obtain ⟨zb, hzb⟩ : ∃ zb, (M.take k).any (rowB l) = zb := ⟨_, rfl⟩
        rw [hzb] at HSt ⊢
        clear hzb
        obtain ⟨nr, hnr⟩ : ∃ nr, r.length = nr := ⟨_, rfl⟩
        have HNR := Lib.hid hnr
        rw [hnr] at k0 HK0 hrn
        clear hnr
        have k1 := HK0.out wr hB.out
        go_wp2_with fail
        go_loopw [12, 13] (fun z i ws => ∃ x : Nat, x ≤ nr ∧ i = .int .i64 (x : Int) ∧ z = .bool ((r.take x).all (altB l)) ∧ Hid (Below w5.heap.size w5 ws)) (fun _ i _ => nr - (intOf i).toNat)
        case atStart => exact ⟨0, by omega, rfl, rfl, hB⟩
        case round =>
          clear s5 k1 k0 hB
          obtain ⟨x, hx, rfl, rfl, hB⟩ := hrel
          have s5 := (R5.out.below hB.out R5.out.lt).cell (i := 0) rfl
          have k1 := HK0.out wr hB.out
          rcases Nat.lt_or_ge x nr with hltx | hgex
          · obtain ⟨b2, off2, A2, c2, rfl, hbl2, x0, x1, hT2⟩ := (HA1.out.below hB.out) x (by have := HNR.out; omega)
            have hin2 : (x : Int) < (nr : Int) := by omega
            have ha := alt_ok HRo.out (i := x) (by have := HNR.out; omega)
            have HS2 := Lib.hid (all_step (f := altB l) (d := nilA) (l := r) (k := x) (by have := HNR.out; omega))
            obtain ⟨z2, hz2⟩ : ∃ z2, (r.take x).all (altB l) = z2 := ⟨_, rfl⟩
            rw [hz2] at HS2 ⊢
            clear hz2
            generalize r.getD x nilA = aa at *
            obtain ⟨an, av⟩ := aa
            dsimp only at x0 x1 hT2
            obtain ⟨n2, hn2⟩ : ∃ n2, av.length = n2 := ⟨_, rfl⟩
            have hn2b := ha.2.2
            dsimp only at hn2b
            unfold maxLen at hn2b
            rw [hn2] at x1 hn2b
            have HN2 := Lib.hid hn2
            have HAa := Lib.hid ha
            have HT2 := Lib.hid hT2
            clear hn2 ha hT2
            go_upto_region 21 with fail
            have b6 := (Below.refl wr.heap.size wr).alloc (Nat.le_refl _) (.cells #[.string (T an), .slice A2 n2 c2] 50)
            have R6 := Lib.hid (Blk.new wr [.string (T an), .slice A2 n2 c2] 50)
            have HT6 := Lib.hid (HT2.out.below b6)
            have B6 := Lib.hid (hB.out.trans (b6.mono hB.out.size))
            clear b6 x0 x1 HT2 hB s5 k1
            change Hid (Blk (wr.alloc (.cells #[.string (T an), .slice A2 n2 c2] 50)) _ _ _) at R6
            generalize wr.alloc (.cells #[.string (T an), .slice A2 n2 c2] 50) = w6 at *
            generalize wr.heap.size = g6 at *
            have HP6 := Lib.hid (HP5.out.below B6.out)
            go_wp2_with fail
            go_loopw [14, 16] (fun z i ws => ∃ y : Nat, y ≤ n2 ∧ i = .int .i64 (y : Int) ∧ z = .bool ((av.take y).any fun v => decide ((an, v) ∈ l)) ∧ Hid (Below w6.heap.size w6 ws)) (fun _ i _ => n2 - (intOf i).toNat)
            case atStart => exact ⟨0, by omega, rfl, rfl, Lib.hid (Below.refl _ _)⟩
            case round =>
              obtain ⟨y, hy, rfl, rfl, hB⟩ := hrel
              have q0 := (R6.out.below hB.out R6.out.lt).cell (i := 0) rfl
              have q1 := (R6.out.below hB.out R6.out.lt).cell (i := 1) rfl
              rcases Nat.lt_or_ge y n2 with hlty | hgey
              · obtain ⟨b3, off3, rfl, hbl3, y0⟩ := (HT6.out.below hB.out) y (by have := HN2.out; omega)
                have hin3 : (y : Int) < (n2 : Int) := by omega
                have hmx : Try.prog.follows .mixedOrders = true := by kernel_rfl
                have HS3 := Lib.hid (any_step (f := fun v => decide ((an, v) ∈ l)) (d := []) (l := av) (k := y) (by have := HN2.out; omega))
                have hvo := HAa.out.2.1 (av.getD y []) (show av.getD y [] ∈ av from getD_in (by have := HN2.out; omega))
                have HWi := Lib.hid fun (W : World) (g : Nat) (hg : Blk W g [.string (T an), .string (T (av.getD y []))] 45) (hW : Below wr.heap.size wr W) => (rwithin_any (some ⟨g, 0, none⟩) Al [(an, av.getD y [])] l 1 nl 1 cl W (prs_one hg ⟨HAa.out.1.1, hvo.1, HAa.out.1.2, hvo.2⟩) ((HP6.out.below hB.out).below hW) rfl HLL.out (by decide) (by omega)).mono (R' := fun e w' => e = .returned (.bool (subB [(an, av.getD y [])] l)) ∧ Below wr.heap.size wr w') fun e w' h => ⟨h.1, hW.trans (h.2.mono hW.size)⟩
                simp only [sub_one] at HWi
                obtain ⟨zo, hzo⟩ : ∃ zo, ((av.take y).any fun v => decide ((an, v) ∈ l)) = zo := ⟨_, rfl⟩
                rw [hzo] at HS3 ⊢
                clear hzo hvo
                generalize av.getD y [] = v at *
                cases zo with
                | true =>
                  go_wp2_with fail
                  go_quiet (fail)
                  have B7 := Lib.hid (below_drewN hB.out nq)
                  go_wp2_with fail
                  go_round
                  case rel => exact ⟨y + 1, by omega, by go_num, by rw [HS3.out]; rfl, B7⟩
                  case measure => simp [intOf]; omega
                | false =>
                  rw [Bool.false_or] at HS3
                  generalize hzv : decide ((an, v) ∈ l) = zv at *
                  clear hzv
                  have hg6 := Nat.lt_of_lt_of_le R6.out.lt hB.out.size
                  have e0 := World.new_ne wr ⟨g6, 0, none⟩ q0
                  have e1 := World.new_ne wr ⟨g6, 1, none⟩ q1
                  have e2 := World.new_ne wr ⟨b3, off3 + y, none⟩ y0
                  go_wp2_with fail
                  go_region_held3 (fun W => W.cell? ⟨g6, 0, none⟩ = some (.string (T an)) ∧ W.cell? ⟨g6, 1, none⟩ = some (.slice (some ⟨b3, off3, none⟩) n2 c2) ∧ W.cell? ⟨b3, off3 + y, none⟩ = some (.string (T v))) (first | (with_reducible exact ⟨q0, q1, y0⟩) | (with_reducible exact ⟨u0, u1, u2⟩) | go_keep) (first
                    | (go_simp; go_at_call 24; (with_reducible refine (HWi.out _ _ (by first | exact Blk.new _ _ _ | exact (Blk.new _ _ _).drew | exact (Blk.new _ _ _).alloc _) (by repeat (first | (with_reducible exact Below.refl _ _) | refine Below.alloc ?_ (by simp) _ | refine Below.drew ?_ | refine below_drewN ?_ _))).mono ?_); rintro e w7 ⟨rfl, hb⟩; have B8 := Lib.hid hb; have u0 := (hb.cell (p := ⟨g6, 0, none⟩) hg6).trans q0; have u1 := (hb.cell (p := ⟨g6, 1, none⟩) hg6).trans q1; have u2 := (hb.cell (p := ⟨b3, off3 + y, none⟩) hbl3).trans y0; clear hb))
                  all_goals
                    have B9 := Lib.hid (hB.out.trans (B8.out.mono hB.out.size))
                    go_wp2_with fail
                    go_round
                    case rel => exact ⟨y + 1, by omega, by go_num, by rw [HS3.out], B9⟩
                    case measure => simp [intOf]; omega
              · obtain rfl : y = n2 := by omega
                have hal : av.take y = av := List.take_of_length_le (by have := HN2.out; omega)
                rw [hal]
                change Hid ((r.take (x + 1)).all (altB l) = (z2 && (av.any fun v => decide ((an, v) ∈ l)))) at HS2
                have B7 := Lib.hid (B6.out.trans (hB.out.mono B6.out.size))
                clear hal
                generalize (av.any fun v => decide ((an, v) ∈ l)) = zo at *
                cases z2 with
                | true =>
                  cases zo with
                  | true =>
                    go_wp2_with fail
                    go_round
                    case rel => exact ⟨x + 1, by omega, by go_num, by rw [HS2.out]; rfl, B7⟩
                    case measure => simp [intOf]; omega
                  | false =>
                    go_wp2_with fail
                    go_round
                    case rel => exact ⟨x + 1, by omega, by go_num, by rw [HS2.out]; rfl, B7⟩
                    case measure => simp [intOf]; omega
                | false =>
                  cases zo with
                  | true =>
                    go_wp2_with fail
                    go_round
                    case rel => exact ⟨x + 1, by omega, by go_num, by rw [HS2.out]; rfl, B7⟩
                    case measure => simp [intOf]; omega
                  | false =>
                    go_wp2_with fail
                    go_round
                    case rel => exact ⟨x + 1, by omega, by go_num, by rw [HS2.out]; rfl, B7⟩
                    case measure => simp [intOf]; omega
          · obtain rfl : x = nr := by omega
            have hal : r.take x = r := List.take_of_length_le (by have := HNR.out; omega)
            rw [hal]
            have HO6 := Lib.hid (HOn.out wr hB.out)
            change Hid (Calls _ _ _ _ fun e w' => e = .returned (.bool (r.all (altB l))) ∧ _) at HO6
            change Hid ((M.take (k + 1)).any (rowB l) = (zb || r.all (altB l))) at HSt
            clear hal HOn
            cases hz6 : r.all (altB l) with
            | true =>
              rw [hz6] at HO6 HSt
              clear hz6
              cases zb with
              | true =>
                go_wp2_with (go_at_call 17; (with_reducible refine HO6.out.mono ?_); rintro e w6 ⟨rfl, hb⟩; have B6 := Lib.hid (hB.out.trans (hb.mono hB.out.size)); clear hb)
                go_round
                case rel => exact ⟨k + 1, by omega, by go_num, by rw [HSt.out]; rfl, B6⟩
                case measure => simp [intOf]; omega
              | false =>
                go_wp2_with (go_at_call 17; (with_reducible refine HO6.out.mono ?_); rintro e w6 ⟨rfl, hb⟩; have B6 := Lib.hid (hB.out.trans (hb.mono hB.out.size)); clear hb)
                go_round
                case rel => exact ⟨k + 1, by omega, by go_num, by rw [HSt.out]; rfl, B6⟩
                case measure => simp [intOf]; omega
            | false =>
              rw [hz6] at HO6 HSt
              clear hz6
              cases zb with
              | true =>
                go_wp2_with (go_at_call 17; (with_reducible refine HO6.out.mono ?_); rintro e w6 ⟨rfl, hb⟩; have B6 := Lib.hid (hB.out.trans (hb.mono hB.out.size)); clear hb)
                go_round
                case rel => exact ⟨k + 1, by omega, by go_num, by rw [HSt.out]; rfl, B6⟩
                case measure => simp [intOf]; omega
              | false =>
                go_wp2_with (go_at_call 17; (with_reducible refine HO6.out.mono ?_); rintro e w6 ⟨rfl, hb⟩; have B6 := Lib.hid (hB.out.trans (hb.mono hB.out.size)); clear hb)
                go_round
                case rel => exact ⟨k + 1, by omega, by go_num, by rw [HSt.out]; rfl, B6⟩
                case measure => simp [intOf]; omega
      · obtain rfl : k = m := by omega
        have hal : M.take k = M := List.take_of_length_le (by have := HML.out; omega)
        have HHk := HH.out wr hB.out
        rw [HF.out] at HHk
        rw [hal]
        have HH6 := Lib.hid HHk
        clear HHk hal HH
        generalize M.any (rowB l) = z at *
        have hzz : (z == z) = true := by simp
        go_wp2_with (go_at_call 17; (with_reducible refine HH6.out.mono ?_); rintro e w6 ⟨rfl, hb⟩; have B6 := Lib.hid (B5.out.trans ((hB.out.trans (hb.mono hB.out.size)).mono B5.out.size)); clear hb)
        go_ret
        exact ⟨rfl, B6.out⟩
end Go.Proofs.Ytbfogcfgcoljkaa.MatchRowsW
