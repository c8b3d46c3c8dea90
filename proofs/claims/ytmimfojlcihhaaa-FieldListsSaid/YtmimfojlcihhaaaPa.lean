/-
  Loops that only read pairs: Index, Contains, SamePairs, the document's Within.
-/
import Derived.Test.YtmimfojlcihhaaaPr
namespace Go.Proofs.Ytmimfojlcihhaaa.Pa8
open Go.ChangeShapes Go.WideShapes Go.ChangeAt Go.RowKit
open Bytes8 Blk8 Own8 OwnE Fa Fb Fc Fo In8 Pr8
set_option linter.unusedVariables false
set_option linter.unusedSimpArgs false

theorem pair_eq (p q : PR) : decide (p.1 = q.1 ∧ p.2 = q.2) = decide (p = q) := by
  obtain ⟨a, b⟩ := p; obtain ⟨c, d⟩ := q
  simp [Prod.mk.injEq]
theorem eql_pr {p q : PR} (hp : okP p) (hq : okP q) (w : World) : (binOp .eql 24 (.agg #[.string (T p.1), .string (T p.2)]) (.agg #[.string (T q.1), .string (T q.2)])).run Try.prog w = .ok (.bool (decide (p = q))) w := by
  rw [← pair_eq]; exact eql_pair hp.1 hp.2.1 hq.1 hq.2.1 w
theorem neq_pr {p q : PR} (hp : okP p) (hq : okP q) (w : World) : (binOp .neq 24 (.agg #[.string (T p.1), .string (T p.2)]) (.agg #[.string (T q.1), .string (T q.2)])).run Try.prog w = .ok (.bool (!decide (p = q))) w := by
  rw [← pair_eq]; exact neq_pair hp.1 hp.2.1 hq.1 hq.2.1 w
theorem two_cells {w : World} {g : Nat} {a b : Value} {T : TypeId} (h : Blk w g [a, b] T) : w.cell? ⟨g, 0, none⟩ = some a ∧ w.cell? ⟨g, 1, none⟩ = some b :=
  ⟨h.cell (i := 0) rfl, h.cell (i := 1) rfl⟩

set_option maxRecDepth 100000 in
theorem index_any (a : Option Addr) (l : List PR) (len cap : Nat) (p : PR) (w : World) (hP : Prs w a l) (hL : l.length = len) (hmax : len ≤ 1000000) (hp : okP p) :
    Calls Try.prog 50 #[.slice a len cap, .agg #[.string (T p.1), .string (T p.2)]] w fun e w' => ∃ r : Int, e = .returned (.int .i64 r) ∧ decide (0 ≤ r) = decide (p ∈ l) ∧ Below w.heap.size w w' := by
  have B0 := Lib.hid ((Below.refl w.heap.size w).alloc (Nat.le_refl _) (.cells #[.string (T p.1), .string (T p.2)] 24))
  have R0 := Lib.hid (Blk.new w [.string (T p.1), .string (T p.2)] 24)
  have HP := Lib.hid hP
  have HL := Lib.hid hL
  have hmx : Try.prog.follows .mixedOrders = true := by kernel_rfl
  have HQ := Lib.hid fun k => eql_pr (q := l.getD k nil2) hp (hP.1.at_ k)
  generalize T p.1 = S1 at *
  generalize T p.2 = S2 at *
  clear hP hL
  go_enter Try.func50, Try.ntmps50
  go_wp2
  go_loopw [8] (fun i wr => ∃ k : Nat, k ≤ len ∧ i = .int .i64 (k : Int) ∧ Hid (∀ j, j < k → p ≠ l.getD j nil2) ∧ Hid (Below w.heap.size w wr) ∧ Hid (Blk wr w.heap.size [.string S1, .string S2] 24)) (fun i _ => len - (intOf i).toNat)
  case atStart => exact ⟨0, by omega, rfl, Lib.hid fun j hj => absurd hj (by omega), B0, R0⟩
  case round =>
    obtain ⟨k, hk, rfl, hall, hB, hR⟩ := hrel
    rcases Nat.lt_or_ge k len with hlt | hge
    · have hPk := Lib.hid (HP.out.below hB.out)
      obtain ⟨b, off, rfl, hbl, hc0, hc1⟩ := hPk.out.2 k (by have := HL.out; omega)
      have hin : (k : Int) < (len : Int) := by omega
      have hq := HQ.out k
      obtain ⟨r0, r1⟩ := two_cells hR.out
      generalize T (l.getD k nil2).1 = E1 at *
      generalize T (l.getD k nil2).2 = E2 at *
      by_cases he : p = l.getD k nil2
      · have hm : p ∈ l := by rw [he]; exact getD_mem' (by have := HL.out; omega)
        rw [decide_eq_true he] at hq
        have HM := Lib.hid hm
        clear hm he hall HQ
        go_wp2_with fail
        go_quiet (fail)
        go_wp2
        go_ret
        exact ⟨k, rfl, by simp [HM.out], below_drewN hB.out _⟩
      · rw [decide_eq_false he] at hq
        have hall2 := Lib.hid (fun j (hj : j < k + 1) => (by
          rcases Nat.lt_or_ge j k with h1 | h1
          · exact hall.out j h1
          · obtain rfl : j = k := by omega
            exact he : p ≠ l.getD j nil2))
        clear he hall
        go_wp2_with fail
        go_quiet (fail)
        go_wp2
        go_round
        case rel => exact ⟨k + 1, by omega, by go_num, hall2, Lib.hid (below_drewN hB.out _), hR⟩
        case measure => simp [intOf]; omega
    · obtain rfl : k = len := by omega
      have hm : p ∉ l := fun h => by
        obtain ⟨i, hi, e⟩ := mem_getD h
        exact hall.out i (by have := HL.out; omega) e.symm
      have HM := Lib.hid hm
      clear hm hall
      go_wp2
      go_ret
      exact ⟨-1, rfl, by simp [HM.out], hB.out⟩

theorem contains_any (a : Option Addr) (l : List PR) (len cap : Nat) (p : PR) (w : World) (hP : Prs w a l) (hL : l.length = len) (hmax : len ≤ 1000000) (hp : okP p) :
    Calls Try.prog 44 #[.slice a len cap, .agg #[.string (T p.1), .string (T p.2)]] w fun e w' => e = .returned (.bool (decide (p ∈ l))) ∧ Below w.heap.size w w' := by
  have B0 := Lib.hid ((Below.refl w.heap.size w).alloc (Nat.le_refl _) (.cells #[.string (T p.1), .string (T p.2)] 24))
  have HI := Lib.hid fun w (h : Prs w a l) => index_any a l len cap p w h hL hmax hp
  have HP := Lib.hid (hP.below B0.out)
  generalize T p.1 = S1 at *
  generalize T p.2 = S2 at *
  generalize decide (p ∈ l) = d at *
  clear hP hL
  go_enter Try.func44, Try.ntmps44
  go_wp2_with (go_at_call 50; (with_reducible refine (HI.out _ HP.out).mono ?_); rintro e w2 ⟨r, rfl, hr, hb⟩)
  go_ret
  exact ⟨ret_bool rfl, B0.out.trans (hb.mono B0.out.size)⟩

/-! ## SamePairs -/
set_option maxRecDepth 100000 in
theorem spairs_any (a b : Option Addr) (l m : List PR) (n k c d : Nat) (w : World) (hP : Prs w a l) (hQ : Prs w b m) (hL : l.length = n) (hM : m.length = k) (hmax : n ≤ 1000000) (hmax2 : k ≤ 1000000) :
    Calls Try.prog 22 #[.slice a n c, .slice b k d] w fun e w' => e = .returned (.bool (decide (l = m))) ∧ Below w.heap.size w w' := by
  by_cases hnk : n = k
  · subst hnk
    have HP := Lib.hid hP
    have HQ := Lib.hid hQ
    have HL := Lib.hid hL
    have HM := Lib.hid hM
    have HE := Lib.hid fun j => neq_pr (hP.1.at_ j) (hQ.1.at_ j)
    have hmx : Try.prog.follows .mixedOrders = true := by kernel_rfl
    clear hP hQ hL hM
    go_enter Try.func22, Try.ntmps22
    go_wp2
    go_loopw [5] (fun i wr => ∃ j : Nat, j ≤ n ∧ i = .int .i64 (j : Int) ∧ Hid (∀ x, x < j → l.getD x nil2 = m.getD x nil2) ∧ Hid (Below w.heap.size w wr)) (fun i _ => n - (intOf i).toNat)
    case atStart => exact ⟨0, by omega, rfl, Lib.hid fun j hj => absurd hj (by omega), Lib.hid (Below.refl _ _)⟩
    case round =>
      obtain ⟨j, hj, rfl, hall, hB⟩ := hrel
      rcases Nat.lt_or_ge j n with hlt | hge
      · obtain ⟨b1, off1, rfl, hbl1, hc0, hc1⟩ := (HP.out.below hB.out).2 j (by have := HL.out; omega)
        obtain ⟨b2, off2, rfl, hbl2, hd0, hd1⟩ := (HQ.out.below hB.out).2 j (by have := HM.out; omega)
        have hin : (j : Int) < (n : Int) := by omega
        have hq := HE.out j
        generalize T (l.getD j nil2).1 = E1 at *
        generalize T (l.getD j nil2).2 = E2 at *
        generalize T (m.getD j nil2).1 = F1 at *
        generalize T (m.getD j nil2).2 = F2 at *
        by_cases he : l.getD j nil2 = m.getD j nil2
        · rw [decide_eq_true he] at hq
          have hall2 := Lib.hid (fun x (hx : x < j + 1) => (by
            rcases Nat.lt_or_ge x j with h1 | h1
            · exact hall.out x h1
            · obtain rfl : x = j := by omega
              exact he : l.getD x nil2 = m.getD x nil2))
          clear he hall
          go_wp2_with fail
          go_quiet (fail)
          go_wp2
          go_round
          case rel => exact ⟨j + 1, by omega, by go_num, hall2, Lib.hid (below_drewN hB.out _)⟩
          case measure => simp [intOf]; omega
        · rw [decide_eq_false he] at hq
          have hne : l ≠ m := fun e => he (by rw [e])
          have HN := Lib.hid hne
          clear he hall hne
          go_wp2_with fail
          go_quiet (fail)
          go_wp2
          go_ret
          exact ⟨ret_bool (by simp [HN.out]), below_drewN hB.out _⟩
      · obtain rfl : j = n := by omega
        have hlm : l = m := by
          apply List.ext_getElem (by rw [HL.out, HM.out])
          intro i h1 h2
          have := hall.out i (by have := HL.out; omega)
          rwa [List.getD_eq_getElem?_getD, List.getD_eq_getElem?_getD, List.getElem?_eq_getElem h1, List.getElem?_eq_getElem h2] at this
        have HN := Lib.hid hlm
        clear hlm hall
        go_wp2
        go_ret
        exact ⟨ret_bool (by simp [HN.out]), hB.out⟩
  · have hne : l ≠ m := fun e => hnk (by rw [← hL, ← hM, e])
    have hnk2 : ((n : Int) != (k : Int)) = true := by simp; omega
    have HN := Lib.hid hne
    clear hne hnk hP hQ
    go_enter Try.func22, Try.ntmps22
    go_wp2
    go_ret
    exact ⟨ret_bool (by simp [HN.out]), Below.refl _ _⟩
end Go.Proofs.Ytmimfojlcihhaaa.Pa8
