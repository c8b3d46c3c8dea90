/-
  Texts beneath the proof, one behind the other.
-/
import Derived.Deep.Cut
import Derived.BigQuiet
import Derived.Deep.CutRange
import Derived.Deep.RegionHeld3
import Derived.Deep.CutBlock
import Derived.Deep.RegionLaw
import Derived.BigRegion
import Derived.Deep.RegionWith
import Derived.Test.YtpfkhcgeblihcaaQa4
import Derived.Test.YtpfkhcgeblihcaaQa2
import Derived.Test.YtpfkhcgeblihcaaQa3

/-
  Pairs put in their place, plain; a store into a row of pairs that a call gathers.
-/
namespace Go.Proofs.Ytpfkhcgeblihcaa.Pi8
open Go.ChangeShapes Go.WideShapes Go.ChangeAt Go.RowKit
open Bytes8 Blk8 Own8 OwnE Fa Fb Fc Fo In8 Pr8 Ps8 Pl8 Pq8
set_option linter.unusedVariables false
set_option maxRecDepth 100000
set_option linter.unusedSimpArgs false

/-- The row while its end is moved up: what stood at t - 1 stands at t, for t behind j. -/
def shiftL (R : List PR) (j : Nat) : List PR := (List.range (R.length + 1)).map fun t => if t ≤ j then (R ++ [nil2]).getD t nil2 else R.getD (t - 1) nil2
theorem shiftL_len (R : List PR) (j : Nat) : (shiftL R j).length = R.length + 1 := by unfold shiftL; simp
theorem shiftL_at (R : List PR) (j t : Nat) (ht : t < R.length + 1) : (shiftL R j).getD t nil2 = if t ≤ j then (R ++ [nil2]).getD t nil2 else R.getD (t - 1) nil2 := by
  unfold shiftL
  rw [List.getD_eq_getElem?_getD, List.getElem?_map, List.getElem?_range ht]
  rfl
theorem getD_ext {l m : List PR} (h : l.length = m.length) (k : ∀ t, t < l.length → l.getD t nil2 = m.getD t nil2) : l = m := by
  apply List.ext_getElem h
  intro i h1 h2
  have := k i h1
  rwa [List.getD_eq_getElem?_getD, List.getD_eq_getElem?_getD, List.getElem?_eq_getElem h1, List.getElem?_eq_getElem h2] at this
theorem getD_app_l {l m : List PR} {t : Nat} (h : t < l.length) : (l ++ m).getD t nil2 = l.getD t nil2 := by
  rw [List.getD_eq_getElem?_getD, List.getD_eq_getElem?_getD, List.getElem?_append_left h]
theorem getD_set {l : List PR} {i t : Nat} {p : PR} (hi : i < l.length) : (l.set i p).getD t nil2 = if t = i then p else l.getD t nil2 := by
  rw [List.getD_eq_getElem?_getD, List.getD_eq_getElem?_getD, List.getElem?_set]
  by_cases h : i = t
  · subst h; simp [hi]
  · rw [if_neg h, if_neg (fun e => h e.symm)]
theorem shiftL_start (R : List PR) : shiftL R R.length = R ++ [nil2] := by
  refine getD_ext (by rw [shiftL_len]; simp) fun t ht => ?_
  rw [shiftL_len] at ht
  rw [shiftL_at R _ t ht, if_pos (by omega)]
theorem shiftL_step (R : List PR) (j : Nat) (hj : j + 1 ≤ R.length) : (shiftL R (j + 1)).set (j + 1) ((shiftL R (j + 1)).getD j nil2) = shiftL R j := by
  refine getD_ext (by rw [List.length_set, shiftL_len, shiftL_len]) fun t ht => ?_
  rw [List.length_set, shiftL_len] at ht
  rw [getD_set (by rw [shiftL_len]; omega), shiftL_at R j t ht]
  by_cases h : t = j + 1
  · subst h
    rw [if_pos rfl, if_neg (by omega), shiftL_at R (j + 1) j (by omega), if_pos (by omega), getD_app_l (by omega)]
    rfl
  · rw [if_neg h, shiftL_at R (j + 1) t ht]
    by_cases h2 : t ≤ j
    · rw [if_pos (by omega), if_pos h2]
    · rw [if_neg (by omega), if_neg h2]
def insL (R : List PR) (k : Nat) (x : PR) : List PR := R.take k ++ x :: R.drop k
theorem shiftL_end (R : List PR) (k : Nat) (x : PR) (hk : k ≤ R.length) : (shiftL R k).set k x = insL R k x := by
  have hl : (insL R k x).length = R.length + 1 := by unfold insL; simp; omega
  refine getD_ext (by rw [List.length_set, shiftL_len, hl]) fun t ht => ?_
  rw [List.length_set, shiftL_len] at ht
  rw [getD_set (by rw [shiftL_len]; omega), shiftL_at R k t ht]
  unfold insL
  rw [List.getD_eq_getElem?_getD (l := R.take k ++ x :: R.drop k)]
  by_cases h : t = k
  · subst h
    rw [if_pos rfl, List.getElem?_append_right (by simp; omega)]
    simp [Nat.min_eq_left hk]
  · rw [if_neg h]
    by_cases h2 : t ≤ k
    · rw [if_pos h2, getD_app_l (by omega), List.getElem?_append_left (by simp; omega), List.getElem?_take_of_lt (by omega), List.getD_eq_getElem?_getD]
    · rw [if_neg h2, List.getElem?_append_right (by simp; omega), List.length_take, Nat.min_eq_left hk]
      obtain ⟨d, rfl⟩ : ∃ d, t = k + 1 + d := ⟨t - k - 1, by omega⟩
      rw [show k + 1 + d - k = d + 1 by omega, List.getElem?_cons_succ, List.getElem?_drop, List.getD_eq_getElem?_getD, show k + 1 + d - 1 = k + d by omega]
theorem insL_mem (R : List PR) (k : Nat) (x q : PR) : q ∈ insL R k x ↔ q ∈ R ∨ q = x := by
  unfold insL
  conv => rhs; rw [← List.take_append_drop k R]
  simp only [List.mem_append, List.mem_cons]
  constructor
  · rintro (h | h | h)
    · exact Or.inl (Or.inl h)
    · exact Or.inr h
    · exact Or.inl (Or.inr h)
  · rintro ((h | h) | h)
    · exact Or.inl h
    · exact Or.inr (Or.inr h)
    · exact Or.inr (Or.inl h)
/-- Where all ahead of k are ahead of x, and x is ahead of the one at k, x has its place at k. -/
theorem insL_rises {R : List PR} {k : Nat} {x : PR} (hR : Rises R) (hk : k ≤ R.length) (h1 : ∀ t, t < k → ltP (R.getD t nil2) x = true) (h2 : k < R.length → ltP x (R.getD k nil2) = true) : Rises (insL R k x) := by
  unfold insL Rises
  have hd := hR.sublist (List.drop_sublist k R)
  have hkd : ∀ q ∈ R.drop k, ltP x q = true := fun q hq => by
    obtain ⟨i, hi, rfl⟩ := List.mem_iff_getElem.1 hq
    rw [List.length_drop] at hi
    have hx := h2 (by omega)
    rw [List.getElem_drop]
    rcases Nat.eq_zero_or_pos i with h0 | h0
    · subst h0
      rwa [List.getD_eq_getElem?_getD, List.getElem?_eq_getElem (by omega)] at hx
    · refine ltL_trans _ _ _ hx ?_
      have := List.pairwise_iff_getElem.1 hR k (k + i) (by omega) (by omega) (by omega)
      rwa [List.getD_eq_getElem?_getD, List.getElem?_eq_getElem (show k < R.length by omega)]
  rw [List.pairwise_append]
  refine ⟨hR.sublist (List.take_sublist k R), List.pairwise_cons.2 ⟨hkd, hd⟩, fun p hp q hq => ?_⟩
  obtain ⟨i, hi, rfl⟩ := List.mem_iff_getElem.1 hp
  rw [List.length_take] at hi
  have hx := h1 i (by omega)
  rw [List.getElem_take]
  rw [List.getD_eq_getElem?_getD, List.getElem?_eq_getElem (show i < R.length by omega)] at hx
  rcases List.mem_cons.1 hq with rfl | hq
  · exact hx
  · exact ltL_trans _ _ _ hx (hkd q hq)

/-! ## the row so far -/
def rowL (l : List PR) (i : Nat) : List PR := sortP (ded (l.take i))
theorem rowL_okR {l : List PR} {i : Nat} (h : ∀ t, t < i → okR (l.getD t nil2)) (hi : i ≤ l.length) : ∀ p ∈ l.take i, okR p := fun p hp => by
  obtain ⟨t, ht, rfl⟩ := List.mem_iff_getElem.1 hp
  rw [List.length_take] at ht
  have := h t (by omega)
  rw [List.getElem_take]
  rwa [List.getD_eq_getElem?_getD, List.getElem?_eq_getElem (show t < l.length by omega)] at this
theorem rowL_there {l : List PR} {i : Nat} (hi : i < l.length) (h : ∀ t, t < i + 1 → okR (l.getD t nil2)) (hm : l.getD i nil2 ∈ rowL l i) : rowL l (i + 1) = rowL l i := by
  have h1 := rowL_okR h (by omega)
  have h2 := rowL_okR (fun t ht => h t (by omega)) (show i ≤ l.length by omega)
  refine list_same h1 h2 fun p => ?_
  rw [take_step hi]
  simp only [List.mem_append, List.mem_singleton]
  exact ⟨fun k => k.elim id fun e => by rw [e]; exact (list_mem _ _).1 hm, Or.inl⟩
theorem rowL_ins {l : List PR} {i k : Nat} (hi : i < l.length) (h : ∀ t, t < i + 1 → okR (l.getD t nil2)) (hk : k ≤ (rowL l i).length) (h1 : ∀ t, t < k → ltP ((rowL l i).getD t nil2) (l.getD i nil2) = true) (h2 : k < (rowL l i).length → ltP (l.getD i nil2) ((rowL l i).getD k nil2) = true) : insL (rowL l i) k (l.getD i nil2) = rowL l (i + 1) := by
  have o1 := rowL_okR h (by omega)
  have o2 := rowL_okR (fun t ht => h t (by omega)) (show i ≤ l.length by omega)
  refine rises_eq _ _ (insL_rises (list_rises o2) hk h1 h2) (list_rises o1) fun p => ?_
  rw [insL_mem]
  unfold rowL
  rw [list_mem, list_mem, take_step hi]
  simp
theorem rowL_zero (l : List PR) : rowL l 0 = [] := by unfold rowL ded sortP; simp
theorem rowL_len (l : List PR) (i : Nat) : (rowL l i).length ≤ i := by
  unfold rowL
  rw [sortP_len]
  exact Nat.le_trans (ded_len _) (List.length_take_le _ _)

/-! ## a store into the row -/
theorem cellsP_set : ∀ (l : List PR) (i : Nat) (p : PR), ((cellsP l).set (i * 2) (.string (T p.1))).set (i * 2 + 1) (.string (T p.2)) = cellsP (l.set i p)
  | [], _, _ => rfl
  | q :: l, 0, p => by simp [cellsP]
  | q :: l, i + 1, p => by
    have ih := cellsP_set l i p
    rw [show (i + 1) * 2 = i * 2 + 1 + 1 by omega]
    simp only [cellsP, List.set_cons_succ]
    rw [ih]
theorem OwnP.frozen {w : World} {base n c g : Nat} {l : List PR} (h : OwnP w base (some ⟨g, 0, none⟩) n c l) (i : Nat) : w.frozen? ⟨g, i, none⟩ = false := by
  obtain ⟨_, cur, hg, _⟩ := own_block h
  simp [World.frozen?, hg]
theorem OwnP.set {w : World} {base n c g : Nat} {l : List PR} (h : OwnP w base (some ⟨g, 0, none⟩) n c l) (i : Nat) (p : PR) (hp : okP p) (hi : i < n) :
    OwnP ((w.setCell ⟨g, i * 2, none⟩ (.string (T p.1))).setCell ⟨g, i * 2 + 1, none⟩ (.string (T p.2))) base (some ⟨g, 0, none⟩) n c (l.set i p) := by
  refine ⟨fun q hq => ?_, by rw [List.length_set]; exact h.2.1, ?_, ?_, ?_⟩
  · rcases List.mem_or_eq_of_mem_set hq with h1 | h1
    · exact h.1 q h1
    · subst h1; exact hp
  · simpa [World.setCell] using h.2.2.1
  · rw [cellsP_len, List.length_set, h.2.1]
  · rcases h.2.2.2.2 with ⟨he, h0⟩ | ⟨g', cap, cur, he, hb, hg, hnc, hcm, hsz, ht⟩
    · cases he
    · injection he with e1 e2 e3
      simp at e1
      subst e1
      refine .inr ⟨g, cap, (cur.setIfInBounds (i * 2) (.string (T p.1))).setIfInBounds (i * 2 + 1) (.string (T p.2)), ?_, hb, ?_, hnc, hcm, by simpa using hsz, ?_⟩
      · rw [← e3]
      · simp [World.setCell, Array.getElem?_modify, hg]
      · rw [← cellsP_set, ← ht]
        simp only [Array.toList_setIfInBounds, List.take_set]
theorem OwnP.cellAt {w : World} {base n c g : Nat} {l : List PR} (h : OwnP w base (some ⟨g, 0, none⟩) n c l) (i : Nat) (hi : i < n) : w.cell? ⟨g, i * 2, none⟩ = some (.string (T (l.getD i nil2).1)) ∧ w.cell? ⟨g, i * 2 + 1, none⟩ = some (.string (T (l.getD i nil2).2)) ∧ g < w.heap.size ∧ base ≤ g := by
  obtain ⟨hb, cur, hg, ht⟩ := own_block h
  obtain ⟨b, off, e, hlt, h0, h1⟩ := h.prs.2 i (by rw [h.2.1]; exact hi)
  simp at e
  obtain ⟨rfl, rfl⟩ := e
  rw [Nat.zero_add] at h0 h1
  exact ⟨h0, h1, hlt, hb⟩
end Go.Proofs.Ytpfkhcgeblihcaa.Pi8

/-
  Words out of numbers.
-/
namespace Go.Proofs.Ytpfkhcgeblihcaa.Qp
open Go.ChangeShapes Go.WideShapes Go.ChangeAt Go.RowKit
open Bytes8 Blk8 Own8 OwnE Fa Fb Fc Fo Pr8 Pv8 Qa Qb Qc Numb Rows2
open Ps8 (okR)
set_option linter.unusedVariables false
set_option maxRecDepth 100000
set_option linter.unusedSimpArgs false

/-! ## plain -/
/-- Words that begin a match: no plus ahead, or behind another one; the others may be split. -/
def okW (v : TX) : Prop := v ≠ [43] ∧ splitE v = 0 ∧ (AllB v ∧ v.length ≤ 900000) ∧ splitN v ∈ Seq8.nameLs ∧ (splitV v).length ≤ 255
def PW (ws : List TX) : Prop := ∀ i, i < ws.length → (ws.getD i [] = [43] ∧ 0 < i ∧ ws.getD (i - 1) [] ≠ [43]) ∨ okW (ws.getD i [])
theorem getD_snoc_lt {ws : List TX} {x : TX} {i : Nat} (h : i < ws.length) : (ws ++ [x]).getD i [] = ws.getD i [] := by
  rw [List.getD_eq_getElem?_getD, List.getD_eq_getElem?_getD, List.getElem?_append_left h]
theorem getD_snoc_eq {ws : List TX} {x : TX} : (ws ++ [x]).getD ws.length [] = x := by
  rw [List.getD_eq_getElem?_getD, List.getElem?_append_right (Nat.le_refl _)]; simp
theorem PW.word {ws : List TX} (h : PW ws) {x : TX} (hx : okW x) : PW (ws ++ [x]) := fun i hi => by
  rcases Nat.lt_or_ge i ws.length with h1 | h1
  · rw [getD_snoc_lt h1, getD_snoc_lt (show i - 1 < ws.length by omega)]; exact h i h1
  · have e : i = ws.length := by simp at hi; omega
    subst e; rw [getD_snoc_eq]; exact .inr hx
theorem PW.plus {ws : List TX} (h : PW ws) (h0 : 0 < ws.length) (hl : ws.getD (ws.length - 1) [] ≠ [43]) : PW (ws ++ [[43]]) := fun i hi => by
  rcases Nat.lt_or_ge i ws.length with h1 | h1
  · rw [getD_snoc_lt h1, getD_snoc_lt (show i - 1 < ws.length by omega)]; exact h i h1
  · have e : i = ws.length := by simp at hi; omega
    subst e; rw [getD_snoc_eq, getD_snoc_lt (by omega)]; exact .inl ⟨rfl, h0, hl⟩
theorem PW.take {ws : List TX} (h : PW ws) (k : Nat) : PW (ws.take k) := fun i hi => by
  have hi' : i < ws.length := by simp at hi; omega
  have hk : i < k := by simp at hi; omega
  have e : ∀ j, j ≤ i → (ws.take k).getD j [] = ws.getD j [] := fun j hj => by
    rw [List.getD_eq_getElem?_getD, List.getD_eq_getElem?_getD, List.getElem?_take_of_lt (by omega)]
  rw [e i (Nat.le_refl _), e (i - 1) (by omega)]
  exact h i hi'
theorem PW.all {ws : List TX} (h : PW ws) : ∀ v ∈ ws, AllB v ∧ v.length ≤ 900000 := fun v hv => by
  obtain ⟨i, hi, rfl⟩ := List.mem_iff_getElem.1 hv
  have := h i hi
  rw [show ws.getD i [] = ws[i] by simp [List.getElem?_eq_getElem hi]] at this
  rcases this with ⟨e, _⟩ | e
  · rw [e]; exact ⟨(fun x hx => by simp at hx; subst hx; decide), by simp⟩
  · exact e.2.2.1
/-- Whole: no plus at the end. -/
def FW (ws : List TX) : Prop := PW ws ∧ (0 < ws.length → ws.getD (ws.length - 1) [] ≠ [43])
theorem okW_pay {n v : List Int} (hn : AllB n) (hv : AllB v) (h : flawI n v = 0) (h2 : n ∈ Seq8.nameLs) (h3 : v.length ≤ 255) : okW (pay n v) := by
  have hs := split_pay h
  have hl : 1 ≤ n.length ∧ n.length ≤ 64 ∧ v.length ≤ 256 := by
    unfold flawI at h
    by_cases h1 : nmB n = true
    · rw [if_pos h1] at h
      have := nmB_len h1
      by_cases h2 : 256 < v.length
      · rw [if_pos h2] at h; cases h
      · omega
    · rw [if_neg h1] at h; cases h
  refine ⟨fun e => ?_, hs.1, ⟨pay_all hn hv, by rw [pay_len]; omega⟩, by rw [hs.2.1]; exact h2, by rw [hs.2.2]; exact h3⟩
  have := congrArg List.length e
  rw [pay_len] at this
  simp at this
  omega
/-- Such words are a match. -/
theorem comp_from : ∀ (m : Nat) (ws : List TX) (k : Nat) (M : List RW) (row : List PR), ws.length - k = m → PW ws → (0 < ws.length → ws.getD (ws.length - 1) [] ≠ [43]) → k ≤ ws.length → (0 < k → ws.getD (k - 1) [] ≠ [43] → row ≠ []) → (comp (ws.drop k) M row).1 = 0
  | 0, ws, k, M, row, hm, _, _, hk, _ => by rw [List.drop_eq_nil_of_le (by omega)]; rfl
  | m + 1, ws, k, M, row, hm, hP, hL, hk, hrow => by
    have hlt : k < ws.length := by omega
    have hd : ws.drop k = ws.getD k [] :: ws.drop (k + 1) := by
      rw [List.drop_eq_getElem_cons hlt, List.getD_eq_getElem?_getD, List.getElem?_eq_getElem hlt]; rfl
    rw [hd, comp]
    rcases hP k hlt with ⟨e, h0, h1⟩ | h
    · rw [if_pos e, if_neg]
      · refine comp_from m ws (k + 1) _ _ (by omega) hP hL hlt (fun _ h2 => ?_)
        rw [Nat.add_sub_cancel] at h2
        exact absurd e h2
      · rintro (h2 | h2)
        · exact hrow h0 h1 h2
        · have h3 := List.drop_eq_nil_iff.1 h2
          have h4 := hL (by omega)
          rw [show ws.length - 1 = k by omega] at h4
          exact h4 e
    · rw [if_neg h.1, if_pos h.2.1]
      exact comp_from m ws (k + 1) _ _ (by omega) hP hL hlt (fun _ _ => by simp)
theorem comp_fine {ws : List TX} (h : FW ws) (hl : ws.length ≤ 32) : (compM ws).1 = 0 := by
  unfold compM
  rw [if_neg (by omega)]
  exact comp_from _ ws 0 [] [] rfl h.1 h.2 (Nat.zero_le _) (fun h => absurd h (by omega))

/-! ## the maker -/
end Go.Proofs.Ytpfkhcgeblihcaa.Qp

/-
  Words out of numbers, walked.
-/
namespace Go.Proofs.Ytpfkhcgeblihcaa.Qq
open Go.ChangeShapes Go.WideShapes Go.ChangeAt Go.RowKit
open Bytes8 Blk8 Own8 OwnE Fa Fb Fc Fo Pr8 Pv8 Qa Qb Qc Qp Numb Rows2
open Qt (values_few)
open Ps8 (okR)
set_option linter.unusedVariables false
set_option maxRecDepth 100000
set_option linter.unusedSimpArgs false

theorem flaw_len {n v : List Int} (h : flawI n v = 0) : n.length + v.length ≤ 900000 := by
  unfold flawI at h
  by_cases h1 : nmB n = true
  · rw [if_pos h1] at h
    have := nmB_len h1
    by_cases h2 : 256 < v.length
    · rw [if_pos h2] at h; cases h
    · omega
  · rw [if_neg h1] at h; cases h
theorem T_plus' (x : TX) (hx : AllB x) : ((T x).toList == [43]) = decide (x = [43]) := by
  rw [show ([43] : List UInt8) = (T [43]).toList by rw [T_toList]; rfl]
  exact T_beq hx (fun y hy => by simp at hy; subst hy; decide)
theorem ownT_keptB {w w' : World} {base gq : Nat} {A : Option Addr} {n c : Nat} {l : List TX} (h : OwnT w base A n c l) (hk : Seq8.KeptB w.heap.size gq w w') (hg : gq < base) : OwnT w' base A n c l := by
  refine ⟨h.1, Nat.le_trans h.2.1 hk.size, h.2.2.1, ?_⟩
  rcases h.2.2.2 with h1 | ⟨g, cap, cur, h1, h2, h3, h4⟩
  · exact .inl h1
  · refine .inr ⟨g, cap, cur, h1, h2, ?_, h4⟩
    have hlt : g < w.heap.size := by
      rcases Nat.lt_or_ge g w.heap.size with h | h
      · exact h
      · rw [Array.getElem?_eq_none h] at h3; cases h3
    rw [hk.block g hlt (by omega)]; exact h3
theorem ownT_snoc {w : World} {base n c : Nat} {A : Option Addr} {l : List TX} {x : TX} (hl : l.length = n) (h : OwnE 9 1 w base A (n + 1) c (cellsT l ++ [.string (T x)])) : OwnT w base A (n + 1) c (l ++ [x]) := by
  refine ⟨by simp [hl], ?_⟩
  rw [show cellsT (l ++ [x]) = cellsT l ++ [.string (T x)] by simp [cellsT]]
  exact h
theorem elemT : Try.prog.elem 22 = 9 := by kernel_rfl
theorem sizeofT (w : World) : (sizeOf 9).run Try.prog w = .ok 1 w := by
  obtain ⟨i, hi, hzz⟩ := Option.map_eq_some_iff.1 tElt.info
  simp only [Prod.mk.injEq] at hzz
  simp [sizeOf, typeInfo, hi, hzz]
theorem underT : Try.prog.underlying 22 = some (.slice (Try.prog.elem 22)) := by rw [elemT]; exact Try.underlying22
theorem cutt_h (g n c k : Nat) (hk : k ≤ c) (hc : c ≤ 9223372036854775807) (w : World) :
    (Instr.slice 22 (.slice (some ⟨g, 0, none⟩) n c) none (some (.int .i64 (k : Int))) none).run Try.prog w = .ok (.slice (some ⟨g, 0, none⟩) k c) w := by
  rw [run_slice_h w 22 (some ⟨g, 0, none⟩) n c underT .i64 (k : Int) (by omega) (by omega), elemT, sizeofT]
  simp [Result.andThen, sliced, add_none]
theorem ownT_caps {w : World} {base n c g : Nat} {l : List TX} (h : OwnT w base (some ⟨g, 0, none⟩) n c l) : n ≤ c ∧ c ≤ 9223372036854775807 := by
  rcases h.2.2.2 with ⟨he, _⟩ | ⟨g', cap, cur, he, hb, hg, hnc, hcm, _⟩
  · cases he
  · injection he with e1 e2 e3
    subst e3
    unfold maxLen at hcm
    omega
theorem ownT_base {w : World} {base base2 n c : Nat} {A : Option Addr} {l : List TX} (h : OwnT w base A n c l) (hb : base2 ≤ base) : OwnT w base2 A n c l := by
  refine ⟨h.1, Nat.le_trans hb h.2.1, h.2.2.1, ?_⟩
  rcases h.2.2.2 with h1 | ⟨g, cap, cur, h1, h2, h3⟩
  · exact .inl h1
  · exact .inr ⟨g, cap, cur, h1, Nat.le_trans hb h2, h3⟩
theorem ownT_take {w : World} {base n c g q : Nat} {l : List TX} (h : OwnT w base (some ⟨g, 0, none⟩) n c l) (hq : q ≤ n) : OwnT w base (some ⟨g, 0, none⟩) q c (l.take q) := by
  have hl := h.1
  refine ⟨by simp; omega, h.2.1, by simp [cellsT]; omega, ?_⟩
  rcases h.2.2.2 with ⟨he, _⟩ | ⟨g', cap, cur, he, hb, hg, hnc, hcm, hsz, ht⟩
  · cases he
  · injection he with e1 e2 e3
    subst e3
    refine .inr ⟨g', c, cur, by rw [e1], hb, hg, by omega, hcm, hsz, ?_⟩
    rw [Nat.mul_one] at ht ⊢
    have : cellsT (l.take q) = (cellsT l).take q := by simp [cellsT, List.map_take]
    rw [this, ← ht, List.take_take, Nat.min_eq_left hq]
theorem fw_cut {ws : List TX} {q : Nat} (h : PW ws) (hq : q < ws.length) (hl : ws.getD q [] = [43]) : FW (ws.take q) := by
  refine ⟨h.take q, fun h0 => ?_⟩
  have hlen : (ws.take q).length = q := by simp; omega
  rw [hlen] at h0 ⊢
  rcases h q hq with ⟨_, h1, h2⟩ | h1
  · rw [List.getD_eq_getElem?_getD, List.getElem?_take_of_lt (by omega), ← List.getD_eq_getElem?_getD]; exact h2
  · exact absurd hl h1.1
/-- What the maker of words tells. -/
def Worded (most : Nat) (w : World) (e : Ending) (w' : World) : Prop := ∃ (ws : List TX) (A : Option Addr) (c : Nat), e = .returned (.slice A ws.length c) ∧ OwnT w' w.heap.size A ws.length c ws ∧ FW ws ∧ ws.length ≤ most ∧ Below w.heap.size w w'
end Go.Proofs.Ytpfkhcgeblihcaa.Qq

/-
  Two matches, whether they are one: the program's way.
-/
namespace Go.Proofs.Ytpfkhcgeblihcaa.Qd
open Go.ChangeShapes Go.WideShapes Go.ChangeAt Go.RowKit
open Bytes8 Blk8 Own8 OwnE Fa Fo Pr8 Pv8 Qa Qb Qc
set_option linter.unusedVariables false
set_option maxRecDepth 100000
set_option linter.unusedSimpArgs false

abbrev alV (a : AL) (A : Option Addr) (c : Nat) : Value := .agg #[.string (T a.1), .slice A a.2.length c]
abbrev alC (a : AL) (A : Option Addr) (c : Nat) : List Value := [.string (T a.1), .slice A a.2.length c]
theorem texts_ok {a : AL} (h : OkA a) : ∀ v ∈ a.2, AllB v := fun v hv => (h.2.1 v hv).1
theorem al_eq {a b : AL} : (decide (a = b)) = (decide (a.1 = b.1) && decide (a.2 = b.2)) := by
  by_cases h1 : a.1 = b.1 <;> by_cases h2 : a.2 = b.2 <;> simp [Prod.ext_iff, h1, h2]

set_option maxHeartbeats 2000000 in
theorem samealt_any (a b : AL) (A B : Option Addr) (c d : Nat) (w : World) (hP : Txts w A a.2) (hQ : Txts w B b.2) (ha : OkA a) (hb : OkA b) :
    Calls Try.prog 43 #[alV a A c, alV b B d] w fun e w' => e = .returned (.bool (decide (a = b))) ∧ Below w.heap.size w w' := by
  have ht := T_eq ha.1.1 hb.1.1
  obtain ⟨w1, hw1⟩ : ∃ x, x = w.alloc (.cells #[.string (T a.1), .slice A a.2.length c] 38) := ⟨_, rfl⟩
  obtain ⟨w2, hw2⟩ : ∃ x, x = w1.alloc (.cells #[.string (T b.1), .slice B b.2.length d] 38) := ⟨_, rfl⟩
  have b1 : Below w.heap.size w w1 := hw1 ▸ (Below.refl w.heap.size w).alloc (Nat.le_refl _) _
  have b2 : Below w.heap.size w w2 := hw2 ▸ b1.alloc b1.size _
  have R1 := Lib.hid (show Blk w2 w.heap.size (alC a A c) 38 from hw2 ▸ (hw1 ▸ Blk.new w (alC a A c) 38 : Blk w1 w.heap.size (alC a A c) 38).alloc _)
  have R2 := Lib.hid (show Blk w2 (w.heap.size + 1) (alC b B d) 38 from hw2 ▸ Blk.new_at w1 (alC b B d) 38 _ (by rw [hw1]; simp))
  have HT := Lib.hid (ltexts_any A B a.2 b.2 c d w2 (hP.below b2) (hQ.below b2) (texts_ok ha) (texts_ok hb) ha.2.2 hb.2.2)
  have B2 := Lib.hid b2
  rw [al_eq]
  have r0 := R1.out.cell (i := 0) rfl
  have r1 := R1.out.cell (i := 1) rfl
  have q0 := R2.out.cell (i := 0) rfl
  have q1 := R2.out.cell (i := 1) rfl
  dsimp only [alV]
  clear hP hQ ha hb b1 b2
  by_cases he : a.1 = b.1
  · rw [decide_eq_true he] at ht ⊢
    have hS : T b.1 = T a.1 := by rw [he]
    rw [hS] at q0 hw2 ⊢
    clear he ht R1 R2 hS
    generalize T a.1 = S1 at *
    generalize decide (a.2 = b.2) = z at *
    go_enter Try.func43, Try.ntmps43
    go_upto_region 1 with fail
    rw [← hw1, ← hw2]
    clear hw1 hw2
    go_wp2_with (go_at_call 52; (with_reducible refine HT.out.mono ?_); rintro e w3 ⟨rfl, hb⟩; have B3 := Lib.hid (B2.out.trans (hb.mono B2.out.size)); clear hb)
    go_ret
    exact ⟨rfl, B3.out⟩
  · rw [decide_eq_false he] at ht ⊢
    clear he R1 R2
    generalize T a.1 = S1 at *
    generalize T b.1 = S2 at *
    go_enter Try.func43, Try.ntmps43
    go_upto_region 1 with fail
    rw [← hw1, ← hw2]
    clear hw1 hw2
    go_wp2_with fail
    go_ret
    exact ⟨rfl, B2.out⟩

theorem after {P : Program} {f : FuncId} {args : Array Value} {w wr W : World} {e0 : Ending} (hB : Below w.heap.size w wr) (hW : Below wr.heap.size wr W) (h : Calls P f args W fun e w' => e = e0 ∧ Below W.heap.size W w') : Calls P f args W fun e w' => e = e0 ∧ Below w.heap.size w w' :=
  h.mono fun _ _ k => ⟨k.1, (hB.trans (hW.mono hB.size)).trans (k.2.mono (Nat.le_trans hB.size hW.size))⟩
theorem alt_ok {r : RW} (h : OkR r) {i : Nat} (hi : i < r.length) : OkA (r.getD i nilA) := h.1 _ (getD_in hi)
theorem row_ok {M : List RW} (h : OkM M) {i : Nat} (hi : i < M.length) : OkR (M.getD i []) := h.1 _ (getD_in hi)
set_option maxHeartbeats 4000000 in
theorem eqalts_any (a b : Option Addr) (l m : RW) (c d : Nat) (w : World) (hP : Als w a l) (hQ : Als w b m) (hl : OkR l) (hm : OkR m) :
    Calls Try.prog 42 #[.slice a l.length c, .slice b m.length d, .func (.func 43) #[] #[]] w fun e w' => e = .returned (.bool (decide (l = m))) ∧ Below w.heap.size w w' := by
  have h1 := hl.2
  have h2 := hm.2
  unfold maxLen at h1 h2
  by_cases hlm : l.length = m.length
  · have HP := Lib.hid hP
    have HQ := Lib.hid hQ
    have HE := Lib.hid (ext_getD nilA hlm)
    have HN := Lib.hid fun i => getD_ne (l := l) (m := m) (i := i) nilA
    have HO := Lib.hid fun i hi => alt_ok hl (i := i) hi
    have HO2 := Lib.hid fun i hi => alt_ok hm (i := i) hi
    obtain ⟨n, hn⟩ : ∃ n, m.length = n := ⟨_, rfl⟩
    have hnb : n ≤ 9223372036854775807 := by omega
    have HL := Lib.hid (hlm.trans hn)
    have HM := Lib.hid hn
    rw [hlm, hn]
    clear hP hQ hlm hl hm h1 h2 hn
    go_enter Try.func42, Try.ntmps42
    go_wp2
    go_loopw [17] (fun i wr => ∃ j : Nat, j ≤ n ∧ i = .int .i64 (j : Int) ∧ Hid (∀ k, k < j → l.getD k nilA = m.getD k nilA) ∧ Hid (Below w.heap.size w wr)) (fun i _ => n - (intOf i).toNat)
    case atStart => exact ⟨0, by omega, rfl, Lib.hid (fun k hk => absurd hk (by omega)), Lib.hid (Below.refl _ _)⟩
    case round =>
      obtain ⟨j, hj, rfl, hall, hB⟩ := hrel
      rcases Nat.lt_or_ge j n with hlt | hge
      · obtain ⟨b1, off1, A1, c1, rfl, hbl1, hc0, hc1, hT1⟩ := (HP.out.below hB.out) j (by have := HL.out; omega)
        obtain ⟨b2, off2, A2, c2, rfl, hbl2, hd0, hd1, hT2⟩ := (HQ.out.below hB.out) j (by have := HM.out; omega)
        have hin : (j : Int) < (n : Int) := by omega
        have HC := Lib.hid fun (W : World) (hW : Below wr.heap.size wr W) => after hB.out hW (samealt_any (l.getD j nilA) (m.getD j nilA) A1 A2 c1 c2 W (hT1.below hW) (hT2.below hW) (HO.out j (by have := HL.out; omega)) (HO2.out j (by have := HM.out; omega)))
        dsimp only [alV] at HC
        clear hT1 hT2
        by_cases he : l.getD j nilA = m.getD j nilA
        · have hall2 := Lib.hid (fun k (hk : k < j + 1) => (by
            rcases Nat.lt_or_ge k j with h | h
            · exact hall.out k h
            · obtain rfl : k = j := by omega
              exact he : l.getD k nilA = m.getD k nilA))
          rw [decide_eq_true he] at HC
          clear he hall
          generalize T (l.getD j nilA).1 = E1 at *
          generalize T (m.getD j nilA).1 = E2 at *
          generalize (l.getD j nilA).2.length = n1 at *
          generalize (m.getD j nilA).2.length = n2 at *
          go_wp2_with (go_at_call 43; (with_reducible refine (HC.out _ (by repeat (first | (with_reducible exact Below.refl _ _) | refine Below.alloc ?_ (by simp) _ | refine Below.setCell ?_ (by simp) _))).mono ?_); rintro e w3 ⟨rfl, hb3⟩)
          go_round
          case rel => exact ⟨j + 1, by omega, by go_num, hall2, Lib.hid hb3⟩
          case measure => simp [intOf]; omega
        · have HR := Lib.hid (HN.out j he)
          rw [decide_eq_false he] at HC
          clear he hall
          generalize T (l.getD j nilA).1 = E1 at *
          generalize T (m.getD j nilA).1 = E2 at *
          generalize (l.getD j nilA).2.length = n1 at *
          generalize (m.getD j nilA).2.length = n2 at *
          go_wp2_with (go_at_call 43; (with_reducible refine (HC.out _ (by repeat (first | (with_reducible exact Below.refl _ _) | refine Below.alloc ?_ (by simp) _ | refine Below.setCell ?_ (by simp) _))).mono ?_); rintro e w3 ⟨rfl, hb3⟩)
          go_ret
          exact ⟨by rw [decide_eq_false HR.out]; rfl, hb3⟩
      · obtain rfl : j = n := by omega
        have HR := Lib.hid (HE.out fun i hi => hall.out i (by have := HL.out; omega))
        clear hall
        go_wp2
        go_ret
        exact ⟨by rw [decide_eq_true HR.out]; rfl, hB.out⟩
  · have HR := Lib.hid (show l ≠ m from fun e => hlm (by rw [e]))
    have hd : ((l.length : Int) == (m.length : Int)) = false := by simp; omega
    clear hP hQ hl hm
    generalize l.length = n1 at *
    generalize m.length = n2 at *
    go_enter Try.func42, Try.ntmps42
    go_wp2
    go_ret
    exact ⟨by rw [decide_eq_false HR.out]; rfl, Below.refl _ _⟩
theorem samerow_any (l m : RW) (a b : Option Addr) (c d : Nat) (w : World) (hP : Als w a l) (hQ : Als w b m) (hl : OkR l) (hm : OkR m) :
    Calls Try.prog 29 #[.slice a l.length c, .slice b m.length d] w fun e w' => e = .returned (.bool (decide (l = m))) ∧ Below w.heap.size w w' := by
  have HC := Lib.hid (eqalts_any a b l m c d w hP hQ hl hm)
  clear hP hQ hl hm
  generalize l.length = n1 at *
  generalize m.length = n2 at *
  generalize decide (l = m) = z at *
  go_enter Try.func29, Try.ntmps29
  go_wp2_with (go_at_call 42; (with_reducible refine HC.out.mono ?_); rintro e w3 ⟨rfl, hb3⟩)
  go_ret
  exact ⟨rfl, hb3⟩
set_option maxHeartbeats 4000000 in
theorem eqrows_any (a b : Option Addr) (l m : List RW) (c d : Nat) (w : World) (hP : Mts w a l) (hQ : Mts w b m) (hl : OkM l) (hm : OkM m) :
    Calls Try.prog 28 #[.slice a l.length c, .slice b m.length d, .func (.func 29) #[] #[]] w fun e w' => e = .returned (.bool (decide (l = m))) ∧ Below w.heap.size w w' := by
  have h1 := hl.2
  have h2 := hm.2
  unfold maxLen at h1 h2
  by_cases hlm : l.length = m.length
  · have HP := Lib.hid hP
    have HQ := Lib.hid hQ
    have HE := Lib.hid (ext_getD [] hlm)
    have HN := Lib.hid fun i => getD_ne (l := l) (m := m) (i := i) ([] : RW)
    have HO := Lib.hid fun i hi => row_ok hl (i := i) hi
    have HO2 := Lib.hid fun i hi => row_ok hm (i := i) hi
    obtain ⟨n, hn⟩ : ∃ n, m.length = n := ⟨_, rfl⟩
    have hnb : n ≤ 9223372036854775807 := by omega
    have HL := Lib.hid (hlm.trans hn)
    have HM := Lib.hid hn
    rw [hlm, hn]
    clear hP hQ hlm hl hm h1 h2 hn
    go_enter Try.func28, Try.ntmps28
    go_wp2
    go_loopw [17] (fun i wr => ∃ j : Nat, j ≤ n ∧ i = .int .i64 (j : Int) ∧ Hid (∀ k, k < j → l.getD k [] = m.getD k []) ∧ Hid (Below w.heap.size w wr)) (fun i _ => n - (intOf i).toNat)
    case atStart => exact ⟨0, by omega, rfl, Lib.hid (fun k hk => absurd hk (by omega)), Lib.hid (Below.refl _ _)⟩
    case round =>
      obtain ⟨j, hj, rfl, hall, hB⟩ := hrel
      rcases Nat.lt_or_ge j n with hlt | hge
      · obtain ⟨b1, off1, A1, c1, rfl, hbl1, hc0, hT1⟩ := (HP.out.below hB.out) j (by have := HL.out; omega)
        obtain ⟨b2, off2, A2, c2, rfl, hbl2, hd0, hT2⟩ := (HQ.out.below hB.out) j (by have := HM.out; omega)
        have hin : (j : Int) < (n : Int) := by omega
        have HC := Lib.hid fun (W : World) (hW : Below wr.heap.size wr W) => after hB.out hW (samerow_any (l.getD j []) (m.getD j []) A1 A2 c1 c2 W (hT1.below hW) (hT2.below hW) (HO.out j (by have := HL.out; omega)) (HO2.out j (by have := HM.out; omega)))
        clear hT1 hT2
        by_cases he : l.getD j [] = m.getD j []
        · have hall2 := Lib.hid (fun k (hk : k < j + 1) => (by
            rcases Nat.lt_or_ge k j with h | h
            · exact hall.out k h
            · obtain rfl : k = j := by omega
              exact he : l.getD k [] = m.getD k []))
          rw [decide_eq_true he] at HC
          clear he hall
          generalize (l.getD j []).length = n1 at *
          generalize (m.getD j []).length = n2 at *
          go_wp2_with (go_at_call 29; (with_reducible refine (HC.out _ (Below.refl _ _)).mono ?_); rintro e w3 ⟨rfl, hb3⟩)
          go_round
          case rel => exact ⟨j + 1, by omega, by go_num, hall2, Lib.hid hb3⟩
          case measure => simp [intOf]; omega
        · have HR := Lib.hid (HN.out j he)
          rw [decide_eq_false he] at HC
          clear he hall
          generalize (l.getD j []).length = n1 at *
          generalize (m.getD j []).length = n2 at *
          go_wp2_with (go_at_call 29; (with_reducible refine (HC.out _ (Below.refl _ _)).mono ?_); rintro e w3 ⟨rfl, hb3⟩)
          go_ret
          exact ⟨by rw [decide_eq_false HR.out]; rfl, hb3⟩
      · obtain rfl : j = n := by omega
        have HR := Lib.hid (HE.out fun i hi => hall.out i (by have := HL.out; omega))
        clear hall
        go_wp2
        go_ret
        exact ⟨by rw [decide_eq_true HR.out]; rfl, hB.out⟩
  · have HR := Lib.hid (show l ≠ m from fun e => hlm (by rw [e]))
    have hd : ((l.length : Int) == (m.length : Int)) = false := by simp; omega
    clear hP hQ hl hm
    generalize l.length = n1 at *
    generalize m.length = n2 at *
    go_enter Try.func28, Try.ntmps28
    go_wp2
    go_ret
    exact ⟨by rw [decide_eq_false HR.out]; rfl, Below.refl _ _⟩
abbrev mtV (a : Option Addr) (n c : Nat) : Value := .agg #[.slice a n c]
set_option maxHeartbeats 4000000 in
theorem same_any (a b : Option Addr) (l m : List RW) (c d : Nat) (w : World) (hP : Mts w a l) (hQ : Mts w b m) (hl : OkM l) (hm : OkM m) :
    Calls Try.prog 16 #[mtV a l.length c, mtV b m.length d] w fun e w' => e = .returned (.bool (decide (l = m))) ∧ Below w.heap.size w w' := by
  have HC := Lib.hid fun (W : World) (hW : Below w.heap.size w W) => after (Below.refl _ w) hW (eqrows_any a b l m c d W (hP.below hW) (hQ.below hW) hl hm)
  clear hP hQ hl hm
  dsimp only [mtV]
  generalize l.length = n1 at *
  generalize m.length = n2 at *
  generalize decide (l = m) = z at *
  go_enter Try.func16, Try.ntmps16
  go_wp2_with (go_at_call 28; (with_reducible refine (HC.out _ (by repeat (first | (with_reducible exact Below.refl _ _) | refine Below.alloc ?_ (by simp) _ | refine Below.setCell ?_ (by simp) _))).mono ?_); rintro e w3 ⟨rfl, hb3⟩)
  go_ret
  exact ⟨rfl, hb3⟩
end Go.Proofs.Ytpfkhcgeblihcaa.Qd

/-
  Two matches, whether they are one: the document's way.
-/
namespace Go.Proofs.Ytpfkhcgeblihcaa.Qe
open Go.ChangeShapes Go.WideShapes Go.ChangeAt Go.RowKit
open Bytes8 Blk8 Own8 OwnE Fa Fo Pr8 Pv8 Qa Qb Qc Qd
set_option linter.unusedVariables false
set_option maxRecDepth 100000
set_option linter.unusedSimpArgs false

set_option maxHeartbeats 8000000 in
theorem rsame_any (a b : Option Addr) (l m : List RW) (c d : Nat) (w : World) (hP : Mts w a l) (hQ : Mts w b m) (hl : OkM l) (hm : OkM m) :
    Calls Try.prog 8 #[mtV a l.length c, mtV b m.length d] w fun e w' => e = .returned (.bool (decide (l = m))) ∧ Below w.heap.size w w' := by
  have h1 := hl.2
  have h2 := hm.2
  unfold maxLen at h1 h2
  have hmx : Try.prog.follows .mixedOrders = true := by kernel_rfl
  obtain ⟨w1, hw1⟩ : ∃ x, x = w.alloc (.cells #[.slice a l.length c] 25) := ⟨_, rfl⟩
  obtain ⟨w2, hw2⟩ : ∃ x, x = w1.alloc (.cells #[.slice b m.length d] 25) := ⟨_, rfl⟩
  have b1 : Below w.heap.size w w1 := hw1 ▸ (Below.refl w.heap.size w).alloc (Nat.le_refl _) _
  have b2 : Below w.heap.size w w2 := hw2 ▸ b1.alloc b1.size _
  have R1 := Lib.hid (show Blk w2 w.heap.size [.slice a l.length c] 25 from hw2 ▸ (hw1 ▸ Blk.new w [.slice a l.length c] 25 : Blk w1 w.heap.size [.slice a l.length c] 25).alloc _)
  have R2 := Lib.hid (show Blk w2 (w.heap.size + 1) [.slice b m.length d] 25 from hw2 ▸ Blk.new_at w1 [.slice b m.length d] 25 _ (by rw [hw1]; simp))
  have HP := Lib.hid (hP.below b2)
  have HQ := Lib.hid (hQ.below b2)
  have B2 := Lib.hid b2
  have HOl := Lib.hid hl
  have HOm := Lib.hid hm
  clear b1 b2 hP hQ
  have r0 := R1.out.cell (i := 0) rfl
  have q0 := R2.out.cell (i := 0) rfl
  dsimp only [mtV]
  by_cases hlm : l.length = m.length
  · have HE := Lib.hid (ext_getD [] hlm)
    have HN := Lib.hid fun i => getD_ne (l := l) (m := m) (i := i) ([] : RW)
    obtain ⟨n, hn⟩ : ∃ n, m.length = n := ⟨_, rfl⟩
    have hnb : n ≤ 9223372036854775807 := by omega
    have hln := hlm.trans hn
    have HL := Lib.hid hln
    have HM := Lib.hid hn
    rw [hln] at r0 hw1 R1 ⊢
    rw [hn] at q0 hw2 R2 ⊢
    clear hlm hl hm h1 h2 hn hln
    go_enter Try.func8, Try.ntmps8
    go_upto_region 1 with fail
    rw [← hw1, ← hw2]
    clear hw1 hw2
    go_wp2_with fail
    go_loopw [5] (fun i wr => ∃ j : Nat, j ≤ n ∧ i = .int .i64 (j : Int) ∧ Hid (∀ k, k < j → l.getD k [] = m.getD k []) ∧ Hid (Below w2.heap.size w2 wr)) (fun i _ => n - (intOf i).toNat)
    case atStart => exact ⟨0, by omega, rfl, Lib.hid (fun k hk => absurd hk (by omega)), Lib.hid (Below.refl _ _)⟩
    case round =>
      obtain ⟨j, hj, rfl, hall, hB⟩ := hrel
      have s0 := (R1.out.below hB.out R1.out.lt).cell (i := 0) rfl
      have t0 := (R2.out.below hB.out R2.out.lt).cell (i := 0) rfl
      rcases Nat.lt_or_ge j n with hlt | hge
      · obtain ⟨b1, off1, A1, c1, rfl, hbl1, hc0, hT1⟩ := (HP.out.below hB.out) j (by have := HL.out; omega)
        obtain ⟨b2, off2, A2, c2, rfl, hbl2, hd0, hT2⟩ := (HQ.out.below hB.out) j (by have := HM.out; omega)
        have hin : (j : Int) < (n : Int) := by omega
        have hr1 := row_ok HOl.out (i := j) (by have := HL.out; omega)
        have hr2 := row_ok HOm.out (i := j) (by have := HM.out; omega)
        have HRx := Lib.hid hr1
        have HRy := Lib.hid hr2
        have g1 := hr1.2
        have g2 := hr2.2
        unfold maxLen at g1 g2
        by_cases hlk : (l.getD j []).length = (m.getD j []).length
        · have HE2 := Lib.hid (ext_getD nilA hlk)
          have HN2 := Lib.hid fun i => getD_ne (l := l.getD j []) (m := m.getD j []) (i := i) nilA
          have HNj := Lib.hid (HN.out j)
          have HEj := Lib.hid fun (he : l.getD j [] = m.getD j []) => (show ∀ k, k < j + 1 → l.getD k [] = m.getD k [] from fun k hk => by
            rcases Nat.lt_or_ge k j with h | h
            · exact hall.out k h
            · obtain rfl : k = j := by omega
              exact he)
          obtain ⟨n2, hn2⟩ : ∃ n2, (m.getD j []).length = n2 := ⟨_, rfl⟩
          have hnb2 : n2 ≤ 9223372036854775807 := by omega
          have hln2 := hlk.trans hn2
          have HL2 := Lib.hid hln2
          have HM2 := Lib.hid hn2
          rw [hln2] at hc0
          rw [hn2] at hd0
          have HT1 := Lib.hid hT1
          have HT2 := Lib.hid hT2
          clear hlk hn2 hln2 g1 g2 hr1 hr2 hT1 hT2 hall
          generalize l.getD j [] = lj at *
          generalize m.getD j [] = mj at *
          go_wp2_with fail
          go_quiet (fail)
          have HB2 := Lib.hid (below_drewN hB.out nq)
          have HBd := Lib.hid (below_drewN (Below.refl wr.heap.size wr) nq)
          have HC1 := Lib.hid fun (W : World) (hW : Below wr.heap.size wr W) => (hW.cell (p := ⟨b1, off1 + j, none⟩) hbl1).trans hc0
          have HC2 := Lib.hid fun (W : World) (hW : Below wr.heap.size wr W) => (hW.cell (p := ⟨b2, off2 + j, none⟩) hbl2).trans hd0
          have hb2s := HB2.out.size
          have hbds := HBd.out.size
          clear s0 t0 hc0 hd0 hB
          generalize wr.drewN nq = wd at *
          go_wp2_with fail
          go_loopw [6] (fun i ws => ∃ k : Nat, k ≤ n2 ∧ i = .int .i64 (k : Int) ∧ Hid (∀ q, q < k → lj.getD q nilA = mj.getD q nilA) ∧ Hid (Below w2.heap.size w2 ws) ∧ Hid (Below wr.heap.size wr ws)) (fun i _ => n2 - (intOf i).toNat)
          case atStart => exact ⟨0, by omega, rfl, Lib.hid (fun k hk => absurd hk (by omega)), HB2, HBd⟩
          case round =>
            obtain ⟨k, hk, rfl, hall, hB, hBr⟩ := hrel
            have s0 := (R1.out.below hB.out R1.out.lt).cell (i := 0) rfl
            have t0 := (R2.out.below hB.out R2.out.lt).cell (i := 0) rfl
            have hc0 := HC1.out wr hBr.out
            have hd0 := HC2.out wr hBr.out
            rcases Nat.lt_or_ge k n2 with hltk | hgek
            · obtain ⟨e1, of1, A3, c3, rfl, hble1, hx0, hx1, hU1⟩ := (HT1.out.below hBr.out) k (by have := HL2.out; omega)
              obtain ⟨e2, of2, A4, c4, rfl, hble2, hy0, hy1, hU2⟩ := (HT2.out.below hBr.out) k (by have := HM2.out; omega)
              have hin2 : (k : Int) < (n2 : Int) := by omega
              have ho1 := alt_ok HRx.out (i := k) (by have := HL2.out; omega)
              have ho2 := alt_ok HRy.out (i := k) (by have := HM2.out; omega)
              have ht := T_eq ho1.1.1 ho2.1.1
              have HC := Lib.hid fun (W : World) (hW : Below wr.heap.size wr W) => stexts_any A3 A4 (lj.getD k nilA).2 (mj.getD k nilA).2 c3 c4 W (hU1.below hW) (hU2.below hW) (texts_ok ho1) (texts_ok ho2) ho1.2.2 ho2.2.2
              have HEk := Lib.hid fun (h1 : (lj.getD k nilA).1 = (mj.getD k nilA).1) (h2 : (lj.getD k nilA).2 = (mj.getD k nilA).2) => (show ∀ q, q < k + 1 → lj.getD q nilA = mj.getD q nilA from fun q hq => by
                rcases Nat.lt_or_ge q k with h | h
                · exact hall.out q h
                · obtain rfl : q = k := by omega
                  exact Prod.ext h1 h2)
              have HNk := Lib.hid (HN2.out k)
              clear hU1 hU2 ho1 ho2 hall
              generalize lj.getD k nilA = la at *
              generalize mj.getD k nilA = ma at *
              obtain ⟨x1, x2⟩ := la
              obtain ⟨y1, y2⟩ := ma
              dsimp only at *
              go_wp2_with fail
              go_cut [7, 8] from 36 to 74 (fun p q wx => ∃ ga gb : Nat, p = .pointer (some ⟨ga, 0, none⟩) ∧ q = .pointer (some ⟨gb, 0, none⟩) ∧ Hid (Blk wx ga [.string (T x1), .slice A3 x2.length c3] 38) ∧ Hid (Blk wx gb [.string (T y1), .slice A4 y2.length c4] 38) ∧ Hid (Below wr.heap.size wr wx))
              case first =>
                have al1 : ∀ (q : Addr) (v : Value) (o : Obj), wr.cell? q = some v → q.block < wr.heap.size → (wr.alloc o).cell? q = some v := fun q v o h h2 => (((Below.refl wr.heap.size wr).alloc (Nat.le_refl _) o).cell (p := q) h2).trans h
                have al2 : ∀ (q : Addr) (v : Value) (o o' : Obj), wr.cell? q = some v → q.block < wr.heap.size → ((wr.alloc o).alloc o').cell? q = some v := fun q v o o' h h2 => ((((Below.refl wr.heap.size wr).alloc (Nat.le_refl _) o).alloc (by simp) o').cell (p := q) h2).trans h
                have lw2 := hB.out.size
                have l1 := Nat.lt_of_lt_of_le R1.out.lt lw2
                have l2 := Nat.lt_of_lt_of_le R2.out.lt lw2
                have l3 := Nat.lt_of_lt_of_le hbl1 hBr.out.size
                have l4 := Nat.lt_of_lt_of_le hbl2 hBr.out.size
                have s01 := fun o => al1 _ _ o s0 l1
                have s02 := fun o o' => al2 _ _ o o' s0 l1
                have t01 := fun o => al1 _ _ o t0 l2
                have t02 := fun o o' => al2 _ _ o o' t0 l2
                have c01 := fun o => al1 _ _ o hc0 l3
                have c02 := fun o o' => al2 _ _ o o' hc0 l3
                have d01 := fun o => al1 _ _ o hd0 l4
                have d02 := fun o o' => al2 _ _ o o' hd0 l4
                have x01 := fun o => al1 _ _ o hx0 hble1
                have x02 := fun o o' => al2 _ _ o o' hx0 hble1
                have x11 := fun o => al1 _ _ o hx1 hble1
                have x12 := fun o o' => al2 _ _ o o' hx1 hble1
                have y01 := fun o => al1 _ _ o hy0 hble2
                have y02 := fun o o' => al2 _ _ o o' hy0 hble2
                have y11 := fun o => al1 _ _ o hy1 hble2
                have y12 := fun o o' => al2 _ _ o o' hy1 hble2
                clear al1 al2
                go_region
                · go_wp2_with fail
                  go_meet
                  case rel => exact ⟨_, _, rfl, rfl, Lib.hid ((Blk.new wr [.string (T x1), .slice A3 x2.length c3] 38).alloc _), Lib.hid (Blk.new_at _ [.string (T y1), .slice A4 y2.length c4] 38 _ (by simp)), Lib.hid (below_drewN (((Below.refl wr.heap.size wr).alloc (Nat.le_refl _) (.cells #[.string (T x1), .slice A3 x2.length c3] 38)).alloc (by simp) (.cells #[.string (T y1), .slice A4 y2.length c4] 38)) 1)⟩
                · go_wp2_with fail
                  go_meet
                  case rel => exact ⟨_, _, rfl, rfl, Lib.hid (Blk.new_at _ [.string (T x1), .slice A3 x2.length c3] 38 _ (by simp)), Lib.hid ((Blk.new wr [.string (T y1), .slice A4 y2.length c4] 38).alloc _), Lib.hid (below_drewN (((Below.refl wr.heap.size wr).alloc (Nat.le_refl _) (.cells #[.string (T y1), .slice A4 y2.length c4] 38)).alloc (by simp) (.cells #[.string (T x1), .slice A3 x2.length c3] 38)) 1)⟩
              case rest =>
                obtain ⟨ga, gb, rfl, rfl, R3, R4, hbd⟩ := hcut
                have bd := hbd.out
                have HCd := Lib.hid (HC.out _ bd)
                have BD := Lib.hid (hB.out.trans (bd.mono hB.out.size))
                have BE := Lib.hid (hBr.out.trans (bd.mono hBr.out.size))
                clear s0 t0 hc0 hd0 hx0 hx1 hy0 hy1 hbd
                have r3a := R3.out.cell (i := 0) rfl
                have r3b := R3.out.cell (i := 1) rfl
                have r4a := R4.out.cell (i := 0) rfl
                have r4b := R4.out.cell (i := 1) rfl
                clear HC bd R3 R4
                by_cases he : x1 = y1
                · subst he
                  rw [decide_eq_true rfl] at ht
                  by_cases he2 : x2 = y2
                  · have hall2 := Lib.hid (HEk.out rfl he2)
                    rw [decide_eq_true he2] at HCd
                    clear he2 HEk HNk ht
                    generalize T x1 = S1 at *
                    generalize x2.length = m1 at *
                    generalize y2.length = m2 at *
                    go_wp2_with (go_at_call 11; (with_reducible refine HCd.out.mono ?_); rintro e w3 ⟨rfl, hb⟩; have b3 := Lib.hid (BD.out.trans (hb.mono BD.out.size)); have b4 := Lib.hid (BE.out.trans (hb.mono BE.out.size)); clear hb)
                    go_round
                    case rel => exact ⟨k + 1, by omega, by go_num, hall2, b3, b4⟩
                    case measure => simp [intOf]; omega
                  · have HR := Lib.hid (HNj.out (HNk.out fun e => he2 (by injection e)))
                    rw [decide_eq_false he2] at HCd
                    clear he2 HEk HNk ht
                    generalize T x1 = S1 at *
                    generalize x2.length = m1 at *
                    generalize y2.length = m2 at *
                    go_wp2_with (go_at_call 11; (with_reducible refine HCd.out.mono ?_); rintro e w3 ⟨rfl, hb⟩; have b3 := Lib.hid (BD.out.trans (hb.mono BD.out.size)); clear hb)
                    go_ret
                    exact ⟨by rw [decide_eq_false HR.out]; rfl, B2.out.trans (b3.out.mono B2.out.size)⟩
                · have HR := Lib.hid (HNj.out (HNk.out fun e => he (by injection e)))
                  rw [decide_eq_false he] at ht
                  clear he HEk HNk
                  generalize T x1 = S1 at *
                  generalize T y1 = S2 at *
                  generalize x2.length = m1 at *
                  generalize y2.length = m2 at *
                  go_wp2_with fail
                  go_ret
                  exact ⟨by rw [decide_eq_false HR.out]; rfl, B2.out.trans (BD.out.mono B2.out.size)⟩
            · obtain rfl : k = n2 := by omega
              have HR := Lib.hid (HEj.out (HE2.out fun i hi => hall.out i (by have := HL2.out; omega)))
              clear hall
              go_wp2_with fail
              go_round
              case rel => exact ⟨j + 1, by omega, by go_num, HR, hB⟩
              case measure => simp [intOf]; omega
        · have HR := Lib.hid (HN.out j (fun e => hlk (by rw [e])))
          clear hall hr1 hr2 hT1 hT2
          have hd2 : (((l.getD j []).length : Int) == ((m.getD j []).length : Int)) = false := beq_eq_false_iff_ne.2 (by omega)
          generalize (l.getD j []).length = k1 at *
          generalize (m.getD j []).length = k2 at *
          clear hlk
          go_wp2_with fail
          go_quiet (fail)
          have HB2 := Lib.hid (below_drewN hB.out nq)
          go_wp2_with fail
          go_ret
          exact ⟨by rw [decide_eq_false HR.out]; rfl, B2.out.trans (HB2.out.mono B2.out.size)⟩
      · obtain rfl : j = n := by omega
        have HR := Lib.hid (HE.out fun i hi => hall.out i (by have := HL.out; omega))
        clear hall
        go_wp2_with fail
        go_ret
        exact ⟨by rw [decide_eq_true HR.out]; rfl, B2.out.trans (hB.out.mono B2.out.size)⟩
  · have HR := Lib.hid (show l ≠ m from fun e => hlm (by rw [e]))
    have hd : ((l.length : Int) == (m.length : Int)) = false := by simp; omega
    clear hl hm HP HQ R1 R2
    generalize l.length = n1 at *
    generalize m.length = n2 at *
    clear hlm
    go_enter Try.func8, Try.ntmps8
    go_upto_region 1 with fail
    rw [← hw1, ← hw2]
    clear hw1 hw2
    go_wp2_with fail
    go_ret
    exact ⟨by rw [decide_eq_false HR.out]; rfl, B2.out⟩
end Go.Proofs.Ytpfkhcgeblihcaa.Qe
