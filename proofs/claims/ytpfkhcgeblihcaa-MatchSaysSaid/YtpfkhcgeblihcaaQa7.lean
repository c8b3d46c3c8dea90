/-
  Texts beneath the proof, one behind the other.
-/
import Derived.Test.YtpfkhcgeblihcaaSl
import Derived.Test.YtpfkhcgeblihcaaQa6
import Derived.Test.YtpfkhcgeblihcaaQa4
import Derived.Test.YtpfkhcgeblihcaaQa5
import Derived.Test.YtpfkhcgeblihcaaQa2

/-
  The library's Compact over a row of pairs of the call's own.
-/
namespace Go.Proofs.Ytpfkhcgeblihcaa.Qi
open Go.ChangeShapes Go.WideShapes Go.ChangeAt Go.RowKit
open Bytes8 Blk8 Own8 OwnE Fa Fb Fo Pr8 Pi8 Qa Qh
set_option linter.unusedVariables false
set_option maxRecDepth 100000
set_option linter.unusedSimpArgs false

abbrev Cmpd (g c : Nat) (l : List PR) (base : Nat) (w : World) (e : Ending) (w' : World) : Prop := e = .returned (.slice (some ⟨g, 0, none⟩) (dd l).length c) ∧ Prs w' (some ⟨g, 0, none⟩) (dd l) ∧ Below base w w'
theorem own_drewN {w : World} {base n c : Nat} {A : Option Addr} {l : List PR} (h : OwnP w base A n c l) (k : Nat) : OwnP (w.drewN k) base A n c l := h
/-- What the end of the second loop leaves. -/
theorem cleared {wr w : World} {g n c base m : Nat} {l : List PR} (hL : l.length = n) (hA : AllP l) (hO : OwnP wr base (some ⟨g, 0, none⟩) n c (half l n)) (hM : (dd l).length = m) (hmn : m < n) (hg : base ≤ g) (hB : Below base w wr) :
    (∀ ty, (Builtin.clear_ #[26] ty #[.slice (some ⟨g, m * 2, none⟩) (n - m) (c - m)]).run Try.prog wr = .ok (.tuple #[]) (wr.setCells g (m * 2) (List.replicate ((n - m) * 2) (.string { data := #[] })))) ∧
    Prs (wr.setCells g (m * 2) (List.replicate ((n - m) * 2) (.string { data := #[] }))) (some ⟨g, 0, none⟩) (dd l) ∧ Below base w (wr.setCells g (m * 2) (List.replicate ((n - m) * 2) (.string { data := #[] }))) := by
  refine ⟨fun ty => clearp wr ty g (m * 2) (n - m) (c - m) (by omega) (fun j hj => ?_) (fun j _ => Pi8.OwnP.frozen hO (m * 2 + j)), ⟨dd_all hA, fun t ht => ?_⟩, below_setCells hg _ _ wr hB⟩
  · obtain ⟨g2, e, _, _, hc⟩ := hO.2.2.cell (i := m * 2 + j) (by rw [hO.2.2.len]; omega)
    injection e with e; injection e with e; subst e
    rw [hc, List.getElem?_eq_getElem (by rw [hO.2.2.len]; omega)]; rfl
  · rw [hM] at ht
    obtain ⟨c0, c1, h1, _⟩ := Pi8.OwnP.cellAt hO t (by omega)
    have e : (half l n).getD t nil2 = (dd l).getD t nil2 := by
      rw [← hL, half_end]
      rw [List.getD_eq_getElem?_getD, List.getD_eq_getElem?_getD, List.getElem?_append_left (by omega)]
    rw [e] at c0 c1
    refine ⟨g, 0, rfl, by rw [size_setCells]; exact h1, ?_, ?_⟩
    · rw [World.cell?_setCells_out g _ _ _ _ (fun _ _ => .inl (by show 0 + t * 2 < m * 2; omega)), Nat.zero_add]; exact c0
    · rw [World.cell?_setCells_out g _ _ _ _ (fun _ _ => .inl (by show 0 + t * 2 + 1 < m * 2; omega)), Nat.zero_add]; exact c1
set_option maxHeartbeats 8000000 in
theorem compact_any (g n c base : Nat) (l : List PR) (w : World) (hO : OwnP w base (some ⟨g, 0, none⟩) n c l) (hn : n ≤ 100000) (h1 : 1 ≤ n) :
    Calls Try.prog 34 #[.slice (some ⟨g, 0, none⟩) n c] w (Cmpd g c l base w) := by
  obtain ⟨hnc, hcm, hbg, hgl⟩ := own_caps hO
  unfold maxLen at hcm
  have hlen := hO.2.1
  have HL := Lib.hid hlen
  have HA := Lib.hid hO.1
  have HO := Lib.hid hO
  have hs1 := cutp_l g n c
  have hs2 := cutp_h g n c
  have HG := Lib.hid hbg
  have hmx : Try.prog.follows .mixedOrders = true := by kernel_rfl
  by_cases h2 : n < 2
  · obtain rfl : n = 1 := by omega
    have HR := Lib.hid (show dd l = l by have := dd_one l (by omega); rwa [List.take_of_length_le (by omega)] at this)
    clear hO hs1 hs2 hlen hbg hgl
    go_enter Try.func34, Try.ntmps34
    go_wp2
    go_ret
    exact ⟨by rw [HR.out, HL.out]; rfl, by rw [HR.out]; exact HO.out.prs, Below.refl _ _⟩
  · clear hO hlen hbg hgl
    go_enter Try.func34, Try.ntmps34
    go_wp2
    go_loopw [3] (fun i wr => ∃ k : Nat, 1 ≤ k ∧ k ≤ n ∧ i = .int .i64 (k : Int) ∧ Hid (dd (l.take k) = l.take k) ∧ Hid (OwnP wr base (some ⟨g, 0, none⟩) n c l) ∧ Hid (Below base w wr)) (fun i _ => n - (intOf i).toNat)
    case atStart => exact ⟨1, by omega, by omega, rfl, Lib.hid (dd_one l (by have := HL.out; omega)), HO, Lib.hid (Below.refl _ _)⟩
    case round =>
      clear HO
      obtain ⟨k, hk1, hk, rfl, hD, hO, hB⟩ := hrel
      by_cases hlt : k < n
      · obtain ⟨j, hj⟩ : ∃ j, k = j + 1 := ⟨k - 1, by omega⟩
        have HJ := Lib.hid hj
        obtain ⟨p0, p1, _, _⟩ := Pi8.OwnP.cellAt hO.out k hlt
        obtain ⟨q0, q1, _, _⟩ := Pi8.OwnP.cellAt hO.out j (by omega)
        have hin : (k : Int) < (n : Int) := by omega
        have hm1 : (k : Int) - 1 = (j : Int) := by omega
        have hjn : (j : Int) < (n : Int) := by omega
        have heq := eql_pair (HA.out.at_ k).1 (HA.out.at_ k).2.1 (HA.out.at_ j).1 (HA.out.at_ j).2.1
        clear hj
        by_cases he : l.getD k nil2 = l.getD j nil2
        · rw [decide_eq_true ⟨by rw [he], by rw [he]⟩] at heq
          have HE := Lib.hid (show l.getD (j + 1) nil2 = l.getD j nil2 by rw [← HJ.out]; exact he)
          have H0 := Lib.hid (dd_same (l := l) (i := j) (by have := HL.out; have := HJ.out; omega) HE.out)
          have H1 := Lib.hid (half_same (l := l) (i := j) (by have := HL.out; have := HJ.out; omega) HE.out)
          have H2 : Hid ((dd (l.take (k + 1))).length = k) := by
            have e : k + 1 = j + 2 := by have := HJ.out; omega
            rw [e, H0.out, ← HJ.out, hD.out, List.length_take]; exact Lib.hid (by have := HL.out; omega)
          have H3 : Hid (half l (k + 1) = l) := by
            have e : k + 1 = j + 2 := by have := HJ.out; omega
            rw [e, H1.out, ← HJ.out]; exact Lib.hid (Qh.half_start hD.out (by have := HL.out; omega))
          clear he hD HE H0 H1
          dsimp only [pv] at heq
          generalize T (l.getD k nil2).1 = S1 at *
          generalize T (l.getD k nil2).2 = S2 at *
          generalize T (l.getD j nil2).1 = S3 at *
          generalize T (l.getD j nil2).2 = S4 at *
          go_wp2_with fail
          go_quiet (fail)
          have hO3 : Hid (OwnP (wr.drewN nq) base (some ⟨g, 0, none⟩) n c (half l (k + 1))) := by
            rw [H3.out]; exact Lib.hid (own_drewN hO.out nq)
          have hB2 := Lib.hid (below_drewN hB.out nq)
          clear p0 p1 q0 q1 heq hO hB
          generalize wr.drewN nq = wd at *
          have hk0 := hs1 k hlt (by omega)
          go_wp2_with fail
          go_loopw [3, 5] (fun i5 i wr => ∃ q m : Nat, 1 ≤ q ∧ k + q ≤ n ∧ m + 1 ≤ k + q ∧ i5 = .int .i64 (m : Int) ∧ i = .int .i64 (q : Int) ∧ Hid ((dd (l.take (k + q))).length = m) ∧ Hid (OwnP wr base (some ⟨g, 0, none⟩) n c (half l (k + q))) ∧ Hid (Below base w wr)) (fun _ i _ => n - (intOf i).toNat)
          case atStart => exact ⟨1, k, by omega, by omega, by omega, rfl, rfl, H2, hO3, hB2⟩
          case round =>
            clear hO3 hB2 H2 H3
            obtain ⟨q, m, hq1, hq, hmq, rfl, rfl, hM, hO, hB⟩ := hrel
            by_cases hlt2 : k + q < n
            · obtain ⟨r, hr⟩ : ∃ r, q = r + 1 := ⟨q - 1, by omega⟩
              obtain ⟨p0, p1, _, _⟩ := Pi8.OwnP.cellAt hO.out (k + q) hlt2
              obtain ⟨q0, q1, _, _⟩ := Pi8.OwnP.cellAt hO.out (k + r) (by omega)
              obtain ⟨r0, r1, _, _⟩ := Pi8.OwnP.cellAt hO.out m (by omega)
              have f0 := Pi8.OwnP.frozen hO.out (m * 2)
              have f1 := Pi8.OwnP.frozen hO.out (m * 2 + 1)
              rw [half_high (by have := HL.out; omega) (by rw [hM.out]; omega), show (k + q) * 2 = k * 2 + q * 2 by omega] at p0 p1
              rw [half_high (by have := HL.out; omega) (by rw [hM.out]; omega), show (k + r) * 2 = k * 2 + r * 2 by omega] at q0 q1
              have hin2 : (q : Int) < ((n - k : Nat) : Int) := by omega
              have hm2 : (q : Int) - 1 = (r : Int) := by omega
              have hrn : (r : Int) < ((n - k : Nat) : Int) := by omega
              have hmn : (m : Int) < (n : Int) := by omega
              have heq := neq_pair (HA.out.at_ (k + q)).1 (HA.out.at_ (k + q)).2.1 (HA.out.at_ (k + r)).1 (HA.out.at_ (k + r)).2.1
              have HK := Lib.hid (show k + q = k + r + 1 by omega)
              clear hr
              by_cases he : l.getD (k + q) nil2 = l.getD (k + r) nil2
              · rw [decide_eq_true ⟨by rw [he], by rw [he]⟩] at heq
                have he2 : l.getD (k + r + 1) nil2 = l.getD (k + r) nil2 := by rw [← HK.out]; exact he
                have H1 := Lib.hid (half_same (l := l) (i := k + r) (by have := HL.out; have := HK.out; omega) he2)
                have H2 := Lib.hid (dd_same (l := l) (i := k + r) (by have := HL.out; have := HK.out; omega) he2)
                clear he he2 r0 r1 f0 f1
                dsimp only [pv] at heq
                generalize T (l.getD (k + q) nil2).1 = S1 at *
                generalize T (l.getD (k + q) nil2).2 = S2 at *
                generalize T (l.getD (k + r) nil2).1 = S3 at *
                generalize T (l.getD (k + r) nil2).2 = S4 at *
                go_wp2_with fail
                go_quiet (fail)
                have hO2 : Hid (OwnP (wr.drewN nq) base (some ⟨g, 0, none⟩) n c (half l (k + (q + 1)))) := by
                  have e : k + (q + 1) = k + r + 2 := by have := HK.out; omega
                  rw [e, H1.out, ← HK.out]; exact Lib.hid (own_drewN hO.out nq)
                have hM2 : Hid ((dd (l.take (k + (q + 1)))).length = m) := by
                  have e : k + (q + 1) = k + r + 2 := by have := HK.out; omega
                  rw [e, H2.out, ← HK.out]; exact hM
                have hB2 := Lib.hid (below_drewN hB.out nq)
                clear p0 p1 q0 q1 heq hO hB H1 H2
                go_wp2_with fail
                go_roundw
                case rel => exact ⟨q + 1, m, by omega, by omega, by omega, rfl, by go_num, hM2, hO2, hB2⟩
                case measure => simp [intOf]; omega
              · rw [decide_eq_false (fun h => he (Prod.ext h.1 h.2))] at heq
                have he2 : l.getD (k + r + 1) nil2 ≠ l.getD (k + r) nil2 := by rw [← HK.out]; exact he
                have H1 := Lib.hid (half_new (l := l) (i := k + r) (by have := HL.out; have := HK.out; omega) he2)
                have H2 := Lib.hid (dd_new (l := l) (i := k + r) (by have := HL.out; have := HK.out; omega) he2)
                have hx := HA.out.at_ (k + q)
                have HS : Hid (∀ nq, OwnP (((wr.drewN nq).setCell ⟨g, m * 2, none⟩ (.string (T (l.getD (k + q) nil2).1))).setCell ⟨g, m * 2 + 1, none⟩ (.string (T (l.getD (k + q) nil2).2))) base (some ⟨g, 0, none⟩) n c (half l (k + (q + 1)))) := Lib.hid fun nq => by
                  have e : k + (q + 1) = k + r + 2 := by have := HK.out; omega
                  rw [e, H1.out, ← HK.out, hM.out]
                  exact Pi8.OwnP.set (own_drewN hO.out nq) m (l.getD (k + q) nil2) hx (by omega)
                clear he he2 hx
                dsimp only [pv] at heq
                generalize T (l.getD (k + q) nil2).1 = S1 at *
                generalize T (l.getD (k + q) nil2).2 = S2 at *
                generalize T (l.getD (k + r) nil2).1 = S3 at *
                generalize T (l.getD (k + r) nil2).2 = S4 at *
                go_wp2_with fail
                go_quiet (fail)
                have hO2 := Lib.hid (HS.out nq)
                have hM2 : Hid ((dd (l.take (k + (q + 1)))).length = m + 1) := by
                  have e : k + (q + 1) = k + r + 2 := by have := HK.out; omega
                  rw [e, H2.out, List.length_append, ← HK.out, hM.out]; exact Lib.hid rfl
                have hB2 := Lib.hid (((below_drewN hB.out nq).setCell (p := ⟨g, m * 2, none⟩) HG.out (.string S1)).setCell (p := ⟨g, m * 2 + 1, none⟩) HG.out (.string S2))
                clear q0 q1 heq hO hB H1 H2 HS
                go_wp2_with fail
                go_roundw
                case rel => exact ⟨q + 1, m + 1, by omega, by omega, by omega, by go_num, by go_num, hM2, hO2, hB2⟩
                case measure => simp [intOf]; omega
            · have hqn : k + q = n := by omega
              have hmn : m < n := by omega
              have hk1 := hs1 m hmn (by omega)
              have hk2 := hs2 m (by omega)
              have hM2 : (dd l).length = m := by have := hM.out; rwa [hqn, List.take_of_length_le (by have := HL.out; omega)] at this
              obtain ⟨hcl, hP, hBb⟩ := cleared HL.out HA.out (by have := hO.out; rwa [hqn] at this) hM2 hmn HG.out hB.out
              have HR := Lib.hid hM2
              have HP := Lib.hid hP
              have HB := Lib.hid hBb
              have hle : ¬ (q : Int) < ((n - k : Nat) : Int) := by omega
              clear hM2 hP hBb hqn
              go_wp2_with fail
              go_ret
              exact ⟨by rw [HR.out]; rfl, HP.out, HB.out⟩
        · rw [decide_eq_false (fun h => he (Prod.ext h.1 h.2))] at heq
          have HN : Hid (dd (l.take (k + 1)) = l.take (k + 1)) := by
            have he2 : l.getD (j + 1) nil2 ≠ l.getD j nil2 := by rw [← HJ.out]; exact he
            have e : k + 1 = j + 2 := by have := HJ.out; omega
            have h := dd_new (l := l) (i := j) (by have := HL.out; have := HJ.out; omega) he2
            rw [← HJ.out, hD.out, ← take_step (by have := HL.out; omega)] at h
            rw [e] at h ⊢
            exact Lib.hid h
          clear he hD
          dsimp only [pv] at heq
          generalize T (l.getD k nil2).1 = S1 at *
          generalize T (l.getD k nil2).2 = S2 at *
          generalize T (l.getD j nil2).1 = S3 at *
          generalize T (l.getD j nil2).2 = S4 at *
          go_wp2_with fail
          go_quiet (fail)
          go_wp2_with fail
          go_round
          case rel => exact ⟨k + 1, by omega, by omega, by go_num, HN, Lib.hid (own_drewN hO.out _), Lib.hid (below_drewN hB.out _)⟩
          case measure => simp [intOf]; omega
      · obtain rfl : n = k := by omega
        have HR := Lib.hid (show dd l = l by have := hD.out; rwa [List.take_of_length_le (by have := HL.out; omega)] at this)
        clear hD
        go_wp2_with fail
        go_ret
        exact ⟨by rw [HR.out, HL.out]; rfl, by rw [HR.out]; exact hO.out.prs, hB.out⟩
end Go.Proofs.Ytpfkhcgeblihcaa.Qi

/-
  The program's rows of pairs, sorted: what the library's sort makes of them (its contract: the shelf's).
-/
namespace Go.Proofs.Ytpfkhcgeblihcaa.Qg
open Go.ChangeShapes Go.WideShapes Go.ChangeAt Go.RowKit Go.Lib Go.Sort Go.Shelf
open Bytes8 Blk8 Own8 OwnE Fa Fb Fo Pr8 Qa Qf
open Ps8 (own_block)
set_option linter.unusedVariables false
set_option maxRecDepth 100000
set_option linter.unusedSimpArgs false

abbrev RQ := { p : PR // okQ p }
theorem okE : okQ ([], []) := ⟨(fun x hx => by cases hx), (fun x hx => by cases hx)⟩
instance : Inhabited RQ := ⟨⟨([], []), okE⟩⟩
def encQ (x : RQ) : List Value := [.string (T x.1.1), .string (T x.1.2)]
def cfQ (x y : RQ) : Int := cmpN x.1 y.1
theorem ltQ (x y : RQ) : ltOf cfQ x y = ltN x.1 y.1 := cmpN_lt x.2 y.2
theorem swoQ : Go.Sort.SWO (ltOf cfQ) where
  irrefl x := by rw [ltQ]; exact ltN_irrefl _
  trans x y z h1 h2 := by rw [ltQ] at *; exact ltN_trans h1 h2
  ntrans x y z h1 h2 := by
    rw [ltQ] at *
    cases h : ltN x.1 z.1 with
    | false => rfl
    | true =>
      cases hyx : ltN y.1 x.1 with
      | true => rw [show ltN y.1 z.1 = true from ltN_trans hyx h] at h2; cases h2
      | false =>
        have e := ltN_total h1 hyx
        rw [e] at h
        rw [h] at h2; cases h2
theorem totQ (x y : RQ) (h : ltOf cfQ x y = false) (k : ltOf cfQ y x = false) : x = y := by
  rw [ltQ] at h k
  exact Subtype.ext (ltN_total h k)
theorem cmpQ (blk off size : Nat) (w : World) : CmpLays Try.prog 31 #[] encQ 2 cfQ blk off size w := fun m os dk _ x y => cmpalts_any x.1 y.1 _
/-- Those pairs, with that they are of bytes. -/
def withQ : (l : List PR) → (∀ p ∈ l, okQ p) → List RQ
  | [], _ => []
  | p :: l, h => ⟨p, h p (by simp)⟩ :: withQ l (fun q hq => h q (by simp [hq]))
theorem withQ_val : ∀ (l : List PR) (h : ∀ p ∈ l, okQ p), (withQ l h).map Subtype.val = l
  | [], _ => rfl
  | p :: l, h => by simp [withQ, withQ_val l]
theorem withQ_len (l : List PR) (h : ∀ p ∈ l, okQ p) : (withQ l h).length = l.length := by
  conv => rhs; rw [← withQ_val l h]
  rw [List.length_map]
theorem withQ_sort (l : List PR) (h : ∀ p ∈ l, okQ p) : ((withQ l h).mergeSort fun x y => !ltOf cfQ y x).map Subtype.val = sortN l := by
  unfold sortN
  conv => rhs; rw [← withQ_val l h]
  refine List.map_mergeSort fun a _ b _ => ?_
  rw [ltQ]
theorem heap_sortWorld {α : Type} [Inhabited α] (enc : α → List Value) (k : Nat) (w : World) (blk off m : Nat) (d : Array α) (os : Array Obj) {j : Nat} (hj : j < w.heap.size) (hne : j ≠ blk) : (sortWorldK enc k w blk off m d os).heap[j]? = w.heap[j]? := by
  unfold sortWorldK putRowK
  rw [Go.Sort.heap_grow_old _ _ (by simpa [Go.Sort.putRow, Go.Sort.mapBlock] using hj)]
  simp only [Go.Sort.putRow, Go.Sort.mapBlock, Array.getElem?_modify]
  rw [if_neg (by omega)]
  rfl

/-- The row stays the call's own, sorted. -/
theorem sort_any (g n c base : Nat) (l : List PR) (w : World) (hO : OwnP w base (some ⟨g, 0, none⟩) n c l) (hmax : n ≤ 100000) :
    Calls Try.prog 30 #[.slice (some ⟨g, 0, none⟩) n c, .func (.func 31) #[] #[]] w fun e w' => e = .returned (.tuple #[]) ∧ OwnP w' base (some ⟨g, 0, none⟩) n c (sortN l) ∧ Below base w w' := by
  obtain ⟨hbase, cur, hg, ht⟩ := own_block hO
  have hlen := hO.2.1
  have hR : ∀ p ∈ l, okQ p := fun p hp => ⟨(hO.1 p hp).1, (hO.1 p hp).2.1⟩
  have hgl : g < w.heap.size := by
    rcases Nat.lt_or_ge g w.heap.size with h | h
    · exact h
    · rw [Array.getElem?_eq_none h] at hg; cases hg
  have hk : ∀ x, (encQ x).length = 2 := fun _ => rfl
  have h1 : ∀ x, ∀ v ∈ encQ x, v.oneCell' = true := fun x v hv => by
    simp [encQ] at hv; rcases hv with rfl | rfl <;> rfl
  let d : Array RQ := (withQ l hR).toArray
  have hds : d.size = n := by show (withQ l hR).toArray.size = n; rw [List.size_toArray, withQ_len, hlen]
  have hdv : ∀ i, i < n → (d[i]!).1 = l.getD i nil2 := fun i hi => by
    have e := withQ_val l hR
    have hi' : i < (withQ l hR).length := by rw [withQ_len, hlen]; exact hi
    have : d[i]! = (withQ l hR)[i] := by
      show (withQ l hR).toArray[i]! = _
      rw [getElem!_pos _ i (by simpa using hi')]
      simp
    rw [this]
    conv => rhs; rw [← e]
    rw [List.getD_eq_getElem?_getD, List.getElem?_map, List.getElem?_eq_getElem hi']
    rfl
  have hH : HoldsK encQ 2 w g 0 d := by
    intro j hj
    rw [size_flatK, hds] at hj
    rw [get_flatK _ _ _ _ (by rw [hds]; exact hj)]
    refine ⟨?_, ?_⟩
    · have hi : j / 2 < n := by omega
      have hc := cellsP_at l (j / 2) (by omega)
      have hcell : w.cell? ⟨g, 0 + j, none⟩ = (cellsP l)[j]? := by
        simp only [World.cell?, hg, Nat.zero_add]
        rw [← ht, List.getElem?_take_of_lt (by omega), Array.getElem?_toList]
        rfl
      rw [hcell]
      unfold encQ
      rw [hdv _ hi]
      rcases Nat.mod_two_eq_zero_or_one j with hm | hm
      · have h2 : j / 2 * 2 = j := by omega
        rw [hm]
        have := hc.1
        rw [h2] at this
        simpa using this
      · have h2 : j / 2 * 2 + 1 = j := by omega
        rw [hm]
        have := hc.2
        rw [h2] at this
        simpa using this
    · simp [World.frozen?, hg]
  have hsort := AnyQ.slices_SortFunc_total Try.sortPr 2 Try.isAgg40 Try.sizeOf40 encQ hk h1 cfQ swoQ 31 #[] g 0 c d w (enters_of Try.func31 (by kernel_rfl) rfl) (cmpQ g 0 d.size w) hH hgl (by rw [hds]; omega) totQ
  rw [hds] at hsort
  change Calls Try.prog 30 _ _ _ at hsort
  refine hsort.mono fun e w' ⟨he, q, os, hw⟩ => ⟨he, ?_, ?_⟩
  · subst hw
    have hs : ((d.toList.mergeSort fun x y => !(ltOf cfQ) y x).toArray).size = d.size := by simp
    have hH2 := holdsK_sortWorldK_c encQ 2 w g 0 d _ q os hH hgl hs
    refine ⟨fun p hp => hO.1 p ((sortN_mem l p).1 hp), by rw [sortN_len, hlen], ?_⟩
    obtain ⟨hb0, hl0, hor⟩ := hO.2.2
    rcases hor with ⟨he0, _⟩ | ⟨g', cap', cur', hv, hbg, hg', hnc, hcm, hsz, ht'⟩
    · cases he0
    · injection hv with hv1 hv2 hv3
      injection hv1 with hv1
      injection hv1 with hv1
      subst hv1; subst hv3
      obtain rfl : cur' = cur := by rw [hg] at hg'; injection hg' with hg'; injection hg' with hg'; exact hg'.symm
      obtain ⟨cur2, hg2, hs2⟩ : ∃ cur2, (sortWorldK encQ 2 w g 0 q (d.toList.mergeSort fun x y => !(ltOf cfQ) y x).toArray os).heap[g]? = some (.cells cur2 40 (0, 0)) ∧ cur2.size = cur'.size := by
        unfold sortWorldK putRowK
        rw [Go.Sort.heap_grow_old _ _ (by simpa [Go.Sort.putRow, Go.Sort.mapBlock] using hgl)]
        simp only [Go.Sort.putRow, Go.Sort.mapBlock, Array.getElem?_modify]
        refine ⟨putCells (fun v => v) 0 (flatK encQ 2 (d.toList.mergeSort fun x y => !(ltOf cfQ) y x).toArray) cur', ?_, ?_⟩
        · rw [if_pos trivial]
          show Option.map _ w.heap[g]? = _
          rw [hg]
          rfl
        · simp [putCells]
      have hcell : ∀ j, j < n * 2 → cur2.toList[j]? = (cellsP (sortN l))[j]? := fun j hj => by
        have hi : j / 2 < n := by omega
        have hval : (((d.toList.mergeSort fun x y => !(ltOf cfQ) y x).toArray)[j / 2]!).1 = (sortN l).getD (j / 2) nil2 := by
          have e := withQ_sort l hR
          have hl2 : j / 2 < (d.toList.mergeSort fun x y => !(ltOf cfQ) y x).length := by
            rw [List.length_mergeSort]; show j / 2 < (withQ l hR).length; rw [withQ_len, hlen]; exact hi
          rw [getElem!_pos _ (j / 2) (by simpa using hl2)]
          rw [List.getElem_toArray, ← e]
          rw [List.getD_eq_getElem?_getD, List.getElem?_map]
          show _ = (Option.map Subtype.val (d.toList.mergeSort fun x y => !(ltOf cfQ) y x)[j / 2]?).getD nil2
          rw [List.getElem?_eq_getElem hl2]
          rfl
        have c0 := hH2.cell (i := j / 2) (c := j % 2) (by rw [hs, hds]; exact hi) (by omega)
        have ec := c0.1
        simp only [World.cell?, hg2] at ec
        have hcp := cellsP_at (sortN l) (j / 2) (by rw [sortN_len]; omega)
        unfold encQ at ec
        rw [hval] at ec
        rcases Nat.mod_two_eq_zero_or_one j with hm | hm
        · have h2 : j / 2 * 2 = j := by omega
          rw [h2] at hcp
          rw [hm] at ec
          rw [hcp.1, Array.getElem?_toList]
          simpa [h2] using ec
        · have h2 : j / 2 * 2 + 1 = j := by omega
          rw [h2] at hcp
          rw [hm] at ec
          rw [hcp.2, Array.getElem?_toList]
          simpa [h2] using ec
      have hlc := cellsP_len (sortN l)
      rw [sortN_len, hlen] at hlc
      refine ⟨Nat.le_trans hb0 (size_sortWorldK_c encQ 2 w g 0 q _ os), hlc, .inr ⟨g, _, cur2, rfl, hbg, hg2, hnc, hcm, by rw [hs2]; exact hsz, ?_⟩⟩
      have hlen2 : (cur2.toList.take (n * 2)).length = n * 2 := by
        rw [List.length_take, Array.length_toList, hs2, hsz]
        exact Nat.min_eq_left (Nat.mul_le_mul_right 2 hnc)
      refine List.ext_getElem? fun j => ?_
      rcases Nat.lt_or_ge j (n * 2) with hj | hj
      · rw [List.getElem?_take_of_lt hj]; exact hcell j hj
      · rw [List.getElem?_eq_none (by omega), List.getElem?_eq_none (by omega)]
  · subst hw
    refine ⟨rfl, rfl, rfl, size_sortWorldK_c encQ 2 w g 0 q _ os, fun j hj => ?_⟩
    exact heap_sortWorld _ _ _ _ _ _ _ _ (by omega) (by omega)
end Go.Proofs.Ytpfkhcgeblihcaa.Qg

/-
  A row of a match under way, in memory.
-/
namespace Go.Proofs.Ytpfkhcgeblihcaa.Qj
open Go.ChangeShapes Go.WideShapes Go.ChangeAt Go.RowKit
open Bytes8 Blk8 Own8 OwnM OwnE OwnA Dc Fa Fb Fo Pr8 Pv8 Qa Qb Qd
set_option linter.unusedVariables false
set_option maxRecDepth 100000
set_option linter.unusedSimpArgs false

theorem altElt : Elt 38 36 2 40 (.agg #[.string { data := #[] }, .slice none 0 0]) := ⟨Try.underlying36, by kernel_rfl, rfl, by decide⟩
theorem rowElt : Elt 36 23 1 24 (.slice none 0 0) := ⟨Try.underlying23, by kernel_rfl, rfl, by decide⟩

/-! ## what stands in blocks of a kind -/
def TxF (F : Nat → Prop) (w : World) (a : Option Addr) (vs : List TX) : Prop :=
  ∀ i, i < vs.length → ∃ b off, a = some ⟨b, off, none⟩ ∧ F b ∧ b < w.heap.size ∧ w.cell? ⟨b, off + i, none⟩ = some (.string (T (vs.getD i [])))
def AlF (F : Nat → Prop) (w : World) (a : Option Addr) (l : RW) : Prop :=
  ∀ i, i < l.length → ∃ b off A c, a = some ⟨b, off, none⟩ ∧ F b ∧ b < w.heap.size ∧ w.cell? ⟨b, off + i * 2, none⟩ = some (.string (T (l.getD i nilA).1)) ∧ w.cell? ⟨b, off + i * 2 + 1, none⟩ = some (.slice A (l.getD i nilA).2.length c) ∧ TxF F w A (l.getD i nilA).2
theorem TxF.kept {F G : Nat → Prop} {w w' : World} {a : Option Addr} {vs : List TX} (h : TxF F w a vs) (hs : w.heap.size ≤ w'.heap.size) (hk : ∀ b, F b → b < w.heap.size → w'.heap[b]? = w.heap[b]?) (hG : ∀ b, F b → b < w.heap.size → G b) : TxF G w' a vs := fun i hi => by
  obtain ⟨b, off, e, hf, h1, h2⟩ := h i hi
  exact ⟨b, off, e, hG b hf h1, Nat.lt_of_lt_of_le h1 hs, (World.cell?_of_block (a := ⟨b, off + i, none⟩) (hk b hf h1)).trans h2⟩
theorem AlF.kept {F G : Nat → Prop} {w w' : World} {a : Option Addr} {l : RW} (h : AlF F w a l) (hs : w.heap.size ≤ w'.heap.size) (hk : ∀ b, F b → b < w.heap.size → w'.heap[b]? = w.heap[b]?) (hG : ∀ b, F b → b < w.heap.size → G b) : AlF G w' a l := fun i hi => by
  obtain ⟨b, off, A, c, e, hf, h1, h2, h3, h4⟩ := h i hi
  exact ⟨b, off, A, c, e, hG b hf h1, Nat.lt_of_lt_of_le h1 hs, (World.cell?_of_block (a := ⟨b, off + i * 2, none⟩) (hk b hf h1)).trans h2, (World.cell?_of_block (a := ⟨b, off + i * 2 + 1, none⟩) (hk b hf h1)).trans h3, h4.kept hs hk hG⟩
theorem TxF.txts {F : Nat → Prop} {w : World} {a : Option Addr} {vs : List TX} (h : TxF F w a vs) : Txts w a vs := fun i hi => by
  obtain ⟨b, off, e, _, h1, h2⟩ := h i hi
  exact ⟨b, off, e, h1, h2⟩
theorem AlF.als {F : Nat → Prop} {w : World} {a : Option Addr} {l : RW} (h : AlF F w a l) : Als w a l := fun i hi => by
  obtain ⟨b, off, A, c, e, _, h1, h2, h3, h4⟩ := h i hi
  exact ⟨b, off, A, c, e, h1, h2, h3, h4.txts⟩
theorem AlF.nil (F : Nat → Prop) (w : World) (a : Option Addr) : AlF F w a [] := fun i hi => absurd hi (by simp)
theorem TxF.nil (F : Nat → Prop) (w : World) (a : Option Addr) : TxF F w a [] := fun i hi => absurd hi (by simp)
theorem grown_keeps {w w' : World} {row : Option Nat} (h : w.grownBy w' row) {b : Nat} (hb : b < w.heap.size) (hne : row ≠ some b) : w'.heap[b]? = w.heap[b]? := h.block b hb (fun e => hne e.symm)

/-! ## a row under way -/
abbrev VC := Option Addr × Nat
def cellsA : RW → List VC → List Value
  | a :: r, v :: V => .string (T a.1) :: .slice v.1 a.2.length v.2 :: cellsA r V
  | _, _ => []
theorem cellsA_len : ∀ (r : RW) (V : List VC), V.length = r.length → (cellsA r V).length = r.length * 2
  | [], [], _ => rfl
  | a :: r, v :: V, h => by
    have := cellsA_len r V (by simpa using h)
    simp [cellsA, this]; omega
  | [], _ :: _, h => by cases h
  | _ :: _, [], h => by cases h
theorem cellsA_at : ∀ (r : RW) (V : List VC) (i : Nat), V.length = r.length → i < r.length → (cellsA r V)[i * 2]? = some (.string (T (r.getD i nilA).1)) ∧ (cellsA r V)[i * 2 + 1]? = some (.slice (V.getD i (none, 0)).1 (r.getD i nilA).2.length (V.getD i (none, 0)).2)
  | a :: r, v :: V, 0, _, _ => ⟨rfl, rfl⟩
  | a :: r, v :: V, i + 1, h, hi => by
    have := cellsA_at r V i (by simpa using h) (by simpa using hi)
    rw [show (i + 1) * 2 = i * 2 + 1 + 1 by omega]
    simpa [cellsA] using this
  | [], _, i, _, hi => absurd hi (by simp)
  | _ :: _, [], i, h, _ => by cases h
theorem cellsA_snoc : ∀ (r : RW) (V : List VC) (a : AL) (v : VC), V.length = r.length → cellsA (r ++ [a]) (V ++ [v]) = cellsA r V ++ [.string (T a.1), .slice v.1 a.2.length v.2]
  | [], [], a, v, _ => rfl
  | b :: r, u :: V, a, v, h => by simp [cellsA, cellsA_snoc r V a v (by simpa using h)]
  | [], _ :: _, _, _, h => by cases h
  | _ :: _, [], _, _, h => by cases h
theorem cellsA_one : ∀ (r : RW) (V : List VC), ∀ u ∈ cellsA r V, u.oneCell' = true
  | [], _, u, h => by cases h
  | _ :: _, [], u, h => by cases h
  | a :: r, v :: V, u, h => by
    simp [cellsA] at h
    rcases h with rfl | rfl | h
    · rfl
    · rfl
    · exact cellsA_one r V u h
/-- The row's own block lies below B1; what the alts but the last one hold does too; the last one's values are from B1 on. -/
def Und (w : World) (B0 B1 : Nat) (A : Option Addr) (n c : Nat) (r : RW) : Prop :=
  (r = [] ∧ A = none ∧ n = 0 ∧ c = 0 ∧ B0 ≤ w.heap.size) ∨
  ∃ (g : Nat) (r0 : RW) (a : AL) (V0 : List VC) (Al : Option Addr) (cl : Nat), r = r0 ++ [a] ∧ A = some ⟨g, 0, none⟩ ∧ n = r.length ∧ V0.length = r0.length ∧ B0 ≤ B1 ∧ OwnE 38 2 w B0 A n c (cellsA (r0 ++ [a]) (V0 ++ [(Al, cl)])) ∧ g < B1 ∧
    (∀ i, i < r0.length → TxF (fun b => B0 ≤ b ∧ b < B1 ∧ b ≠ g) w (V0.getD i (none, 0)).1 (r0.getD i nilA).2) ∧ OwnT w B1 Al a.2.length cl a.2
theorem ownT_lt {w : World} {B : Nat} {A : Option Addr} {n c : Nat} {vs : List TX} (h : OwnT w B A n c vs) : ∀ b, ownB A = some b → B ≤ b ∧ b < w.heap.size := OwnE.ltB h.2
theorem ownT_F {w : World} {B : Nat} {A : Option Addr} {n c : Nat} {vs : List TX} (h : OwnT w B A n c vs) : TxF (fun b => B ≤ b ∧ b < w.heap.size) w A vs := fun i hi => by
  obtain ⟨g, e, hb, hlt, hc⟩ := h.2.cell (i := i) (by unfold cellsT; rw [List.length_map]; exact hi)
  refine ⟨g, 0, e, ⟨hb, hlt⟩, hlt, ?_⟩
  rw [Nat.zero_add, hc]
  unfold cellsT
  rw [List.getElem?_map, List.getElem?_eq_getElem hi]
  simp [List.getElem?_eq_getElem hi]
theorem Und.own {w : World} {B0 B1 : Nat} {A : Option Addr} {n c : Nat} {r : RW} (h : Und w B0 B1 A n c r) : ∃ V : List VC, V.length = r.length ∧ n = r.length ∧ OwnE 38 2 w B0 A n c (cellsA r V) := by
  rcases h with ⟨rfl, rfl, rfl, rfl, hb⟩ | ⟨g, r0, a, V0, Al, cl, rfl, rfl, rfl, hV, hB, hO, _⟩
  · exact ⟨[], rfl, rfl, OwnE.nil w B0 hb⟩
  · exact ⟨V0 ++ [(Al, cl)], by simp [hV], rfl, hO⟩
theorem ownE_one {E : TypeId} {size : Nat} {w : World} {base n c : Nat} {A : Option Addr} {xs ys : List Value} (h : OwnE E size w base A n c xs) (k : OwnE E size w base A n c ys) : xs = ys := by
  have h1 := h.2.1
  have k1 := k.2.1
  rcases h.2.2 with ⟨_, h0⟩ | ⟨g, cap, cur, he, _, hg, _, _, _, ht⟩
  · subst h0
    rw [List.eq_nil_of_length_eq_zero (l := xs) (by omega), List.eq_nil_of_length_eq_zero (l := ys) (by omega)]
  · rcases k.2.2 with ⟨_, k0⟩ | ⟨g', cap', cur', ke, _, kg, _, _, _, kt⟩
    · subst k0
      rw [List.eq_nil_of_length_eq_zero (l := xs) (by omega), List.eq_nil_of_length_eq_zero (l := ys) (by omega)]
    · injection he with he _ _
      rw [he] at ke
      injection ke with ke _ _
      injection ke with ke
      injection ke with ke
      subst ke
      rw [hg] at kg
      injection kg with kg
      injection kg with kg
      subst kg
      rw [← ht, ← kt]
/-- A new alt, without values. -/
theorem Und.more {w w' : World} {B0 B1 : Nat} {A A' : Option Addr} {n c c' : Nat} {r : RW} (nm : TX) (h : Und w B0 B1 A n c r) {V1 : List VC} (hV1 : V1.length = r.length) (hO1 : OwnE 38 2 w B0 A n c (cellsA r V1)) (hO2 : OwnE 38 2 w' B0 A' (n + 1) c' (cellsA r V1 ++ [.string (T nm), .slice none 0 0]))
    (hg : w.grownBy w' (ownB A)) (hat : ownB A' = ownB A ∨ ownB A' = some w.heap.size) : Und w' B0 w'.heap.size A' (n + 1) c' (r ++ [(nm, [])]) := by
  have hs := hg.size
  have hO' : ∀ V : List VC, V.length = r.length → OwnE 38 2 w B0 A n c (cellsA r V) → OwnE 38 2 w' B0 A' (n + 1) c' (cellsA r V ++ [.string (T nm), .slice none 0 0]) := fun V _ h => by rw [ownE_one h hO1]; exact hO2
  have key : ∀ {X : List Value}, OwnE 38 2 w' B0 A' (n + 1) c' X → ∃ g', A' = some ⟨g', 0, none⟩ ∧ g' < w'.heap.size := fun {X} hX => by
    rcases hX.2.2 with ⟨he, h0⟩ | ⟨g', cap, cur, he, hb, hgg, _⟩
    · injection he with _ e2 _; omega
    · injection he with e1 _ _
      refine ⟨g', e1, ?_⟩
      rcases Nat.lt_or_ge g' w'.heap.size with h | h
      · exact h
      · rw [Array.getElem?_eq_none h] at hgg; cases hgg
  rcases h with ⟨rfl, rfl, rfl, rfl, hb⟩ | ⟨g, r0, a, V0, Al, cl, rfl, rfl, rfl, hV, hB, hO, hgB, hT, hL⟩
  · have hX := hO' [] rfl (OwnE.nil w B0 hb)
    obtain ⟨g', e, hlt⟩ := key hX
    refine .inr ⟨g', [], (nm, []), [], none, 0, rfl, e, rfl, rfl, Nat.le_trans hb hs, ?_, hlt, (fun i hi => absurd hi (by simp)), rfl, OwnE.nil _ _ (Nat.le_refl _)⟩
    exact hX
  · have hX := hO' (V0 ++ [(Al, cl)]) (by simp [hV]) hO
    obtain ⟨g', e, hlt⟩ := key hX
    subst e
    have hgs : g < w.heap.size := (OwnE.ltB hO g rfl).2
    change some g' = some g ∨ some g' = some w.heap.size at hat
    have hne : ∀ b, b < w.heap.size → b ≠ g → b ≠ g' := fun b hb hbg e => by
      rcases hat with h1 | h1
      · injection h1 with h1; omega
      · injection h1 with h1; omega
    refine .inr ⟨g', r0 ++ [a], (nm, []), V0 ++ [(Al, cl)], none, 0, by simp, rfl, by simp, by simp [hV], Nat.le_trans hO.1 hs, ?_, hlt, fun i hi => ?_, rfl, OwnE.nil _ _ (Nat.le_refl _)⟩
    · rw [cellsA_snoc _ _ _ _ (by simp [hV])]
      exact hX
    · rcases Nat.lt_or_ge i r0.length with h1 | h1
      · rw [List.getD_eq_getElem?_getD, List.getElem?_append_left (by omega), ← List.getD_eq_getElem?_getD, List.getD_eq_getElem?_getD (l := r0 ++ [a]), List.getElem?_append_left h1, ← List.getD_eq_getElem?_getD]
        exact (hT i h1).kept hs (fun b hf hb => grown_keeps hg hb (by intro e; change some g = some b at e; injection e with e; exact hf.2.2 e.symm)) (fun b hf hb => ⟨hf.1, Nat.lt_of_lt_of_le hb hs, hne b hb hf.2.2⟩)
      · have e1 : i = r0.length := by simp at hi; omega
        subst e1
        rw [List.getD_eq_getElem?_getD, List.getElem?_append_right (by omega), List.getD_eq_getElem?_getD (l := r0 ++ [a]), List.getElem?_append_right (by omega), hV, Nat.sub_self]
        exact (ownT_F hL).kept hs (fun b hf hb => grown_keeps hg hb (by intro e; change some g = some b at e; injection e with e; omega)) (fun b hf hb => ⟨by omega, Nat.lt_of_lt_of_le hb hs, hne b hb (by omega)⟩)
theorem OwnE.setAt {E : TypeId} {size : Nat} {w : World} {base n c g : Nat} {xs : List Value} (h : OwnE E size w base (some ⟨g, 0, none⟩) n c xs) (i : Nat) (v : Value) (hi : i < n * size) : OwnE E size (w.setCell ⟨g, i, none⟩ v) base (some ⟨g, 0, none⟩) n c (xs.set i v) := by
  refine ⟨by simpa [World.setCell] using h.1, by rw [List.length_set]; exact h.2.1, ?_⟩
  rcases h.2.2 with ⟨he, h0⟩ | ⟨g', cap, cur, he, hb, hg, hnc, hcm, hsz, ht⟩
  · cases he
  · injection he with e1 e2 e3
    injection e1 with e1
    injection e1 with e1
    subst e1
    refine .inr ⟨g, cap, cur.setIfInBounds i v, by rw [← e3], hb, ?_, hnc, hcm, by simpa using hsz, ?_⟩
    · simp [World.setCell, Array.getElem?_modify, hg]
    · rw [← ht, Array.toList_setIfInBounds, List.take_set]
theorem far_keeps {w : World} {p : Addr} {v : Value} {b : Nat} (h : b ≠ p.block) : (w.setCell p v).heap[b]? = w.heap[b]? := Below.heap_setCell w p v b h
/-- The last alt's values: one more, and told in the row. -/
theorem Und.value {w w' : World} {B0 B1 : Nat} {g n c : Nat} {r0 : RW} {a : AL} {V0 : List VC} {Al Al' : Option Addr} {cl cl' : Nat} (u : TX) (hn : n = r0.length + 1) (hV : V0.length = r0.length) (hB : B0 ≤ B1)
    (hO : OwnE 38 2 w B0 (some ⟨g, 0, none⟩) n c (cellsA (r0 ++ [a]) (V0 ++ [(Al, cl)]))) (hg : g < B1)
    (hT : ∀ i, i < r0.length → TxF (fun b => B0 ≤ b ∧ b < B1 ∧ b ≠ g) w (V0.getD i (none, 0)).1 (r0.getD i nilA).2) (hb : Below B1 w w') (hL : OwnT w' B1 Al' (a.2.length + 1) cl' (a.2 ++ [u])) (hw : B1 ≤ w.heap.size) :
    Und (w'.setCell ⟨g, r0.length * 2 + 1, none⟩ (.slice Al' (a.2.length + 1) cl')) B0 B1 (some ⟨g, 0, none⟩) n c (r0 ++ [(a.1, a.2 ++ [u])]) := by
  have hs : ∀ p v, (w'.setCell p v).heap.size = w'.heap.size := fun p v => by simp
  have hO1 : OwnE 38 2 w' B0 (some ⟨g, 0, none⟩) n c (cellsA (r0 ++ [a]) (V0 ++ [(Al, cl)])) := by
    refine ⟨Nat.le_trans hO.1 hb.size, hO.2.1, ?_⟩
    rcases hO.2.2 with h1 | ⟨k, cap, cur, h1, h2, h3, h4⟩
    · exact .inl h1
    · refine .inr ⟨k, cap, cur, h1, h2, ?_, h4⟩
      injection h1 with e1 _ _
      injection e1 with e1
      injection e1 with e1
      subst e1
      rw [hb.block g hg]; exact h3
  refine .inr ⟨g, r0, (a.1, a.2 ++ [u]), V0, Al', cl', rfl, rfl, by simp; omega, hV, hB, ?_, hg, fun i hi => ?_, ?_⟩
  · have h := OwnE.setAt hO1 (r0.length * 2 + 1) (.slice Al' (a.2.length + 1) cl') (by omega)
    have e : (cellsA (r0 ++ [a]) (V0 ++ [(Al, cl)])).set (r0.length * 2 + 1) (.slice Al' (a.2.length + 1) cl') = cellsA (r0 ++ [(a.1, a.2 ++ [u])]) (V0 ++ [(Al', cl')]) := by
      have hl := cellsA_len r0 V0 hV
      rw [cellsA_snoc _ _ _ _ hV, cellsA_snoc _ _ _ _ hV, List.set_append_right _ _ (by omega), hl, show r0.length * 2 + 1 - r0.length * 2 = 1 by omega]
      simp
    rw [e] at h
    exact h
  · exact (hT i hi).kept (by rw [hs]; exact hb.size) (fun b hf hlt => (far_keeps (p := ⟨g, r0.length * 2 + 1, none⟩) hf.2.2).trans (hb.block b hf.2.1)) (fun b hf _ => hf)
  · refine ⟨by simp, ?_⟩
    have h2 := hL.2
    have hlen : (a.2 ++ [u]).length = a.2.length + 1 := by simp
    dsimp only
    rw [hlen]
    refine ⟨by rw [hs]; exact h2.1, h2.2.1, ?_⟩
    rcases h2.2.2 with h1 | ⟨k, cap, cur, h1, h3, h4, h5⟩
    · exact .inl h1
    · exact .inr ⟨k, cap, cur, h1, h3, (far_keeps (p := ⟨g, r0.length * 2 + 1, none⟩) (by show k ≠ g; omega)).trans h4, h5⟩
/-- The row, when nothing more comes: all of it in blocks of its own. -/
theorem Und.done {w : World} {B0 B1 : Nat} {A : Option Addr} {n c : Nat} {r : RW} (h : Und w B0 B1 A n c r) : n = r.length ∧ AlF (fun b => B0 ≤ b ∧ b < w.heap.size) w A r := by
  rcases h with ⟨rfl, rfl, rfl, rfl, hb⟩ | ⟨g, r0, a, V0, Al, cl, rfl, rfl, rfl, hV, hB, hO, hgB, hT, hL⟩
  · exact ⟨rfl, AlF.nil _ _ _⟩
  · refine ⟨rfl, fun i hi => ?_⟩
    have hgl := OwnE.ltB hO g rfl
    have hVs : (V0 ++ [(Al, cl)]).length = (r0 ++ [a]).length := by simp [hV]
    obtain ⟨c0, c1⟩ := cellsA_at (r0 ++ [a]) (V0 ++ [(Al, cl)]) i hVs hi
    have hl := cellsA_len (r0 ++ [a]) (V0 ++ [(Al, cl)]) hVs
    obtain ⟨g1, e1, _, _, k1⟩ := hO.cell (i := i * 2) (by omega)
    obtain ⟨g2, e2, _, _, k2⟩ := hO.cell (i := i * 2 + 1) (by omega)
    injection e1 with e1; injection e1 with e1; subst e1
    injection e2 with e2; injection e2 with e2; subst e2
    refine ⟨g, 0, _, _, rfl, hgl, hgl.2, by rw [Nat.zero_add, k1, c0], by rw [Nat.zero_add, k2, c1], ?_⟩
    rcases Nat.lt_or_ge i r0.length with h1 | h1
    · rw [List.getD_eq_getElem?_getD, List.getElem?_append_left (by omega), ← List.getD_eq_getElem?_getD, List.getD_eq_getElem?_getD (l := r0 ++ [a]), List.getElem?_append_left h1, ← List.getD_eq_getElem?_getD]
      exact (hT i h1).kept (Nat.le_refl _) (fun _ _ _ => rfl) (fun b hf hb => ⟨hf.1, hb⟩)
    · have e1 : i = r0.length := by simp at hi; omega
      subst e1
      rw [List.getD_eq_getElem?_getD, List.getElem?_append_right (by omega), List.getD_eq_getElem?_getD (l := r0 ++ [a]), List.getElem?_append_right (by omega), hV, Nat.sub_self]
      exact (ownT_F hL).kept (Nat.le_refl _) (fun _ _ _ => rfl) (fun b hf hb => ⟨by omega, hb⟩)
end Go.Proofs.Ytpfkhcgeblihcaa.Qj
