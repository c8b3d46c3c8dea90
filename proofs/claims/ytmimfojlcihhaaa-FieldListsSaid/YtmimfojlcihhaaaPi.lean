/-
  Pairs put in their place, plain; a store into a row of pairs that a call gathers.
-/
import Derived.Test.YtmimfojlcihhaaaPq
namespace Go.Proofs.Ytmimfojlcihhaaa.Pi8
open Go.ChangeShapes Go.WideShapes Go.ChangeAt Go.RowKit
open Bytes8 Blk8 Own8 OwnE Fa Fb Fc Fo In8 Pr8 Pa8 Pu8 Ps8 Pl8 Pq8
set_option linter.unusedVariables false
set_option linter.unusedSimpArgs false

/-- The row while its end is moved up: what stood at t - 1 stands at t, for t behind j. -/
def shiftL (R : List PR) (j : Nat) : List PR := (List.range (R.length + 1)).map fun t => if t ≤ j then (R ++ [nil2]).getD t nil2 else R.getD (t - 1) nil2
theorem shiftL_len (R : List PR) (j : Nat) : (shiftL R j).length = R.length + 1 := by unfold shiftL; simp
theorem shiftL_at (R : List PR) (j t : Nat) (ht : t < R.length + 1) : (shiftL R j).getD t nil2 = if t ≤ j then (R ++ [nil2]).getD t nil2 else R.getD (t - 1) nil2 := by
  unfold shiftL
  rw [List.getD_eq_getElem?_getD, List.getElem?_map, List.getElem?_range ht]
  rfl
theorem getD_ext {l m : List PR} (h : l.length = m.length) (k : ∀ t, t < l.length → l.getD t nil2 = m.getD t nil2) : l = m := by
  apply List.ext_getElem h
  intro i h1 h2
  have := k i h1
  rwa [List.getD_eq_getElem?_getD, List.getD_eq_getElem?_getD, List.getElem?_eq_getElem h1, List.getElem?_eq_getElem h2] at this
theorem getD_app_l {l m : List PR} {t : Nat} (h : t < l.length) : (l ++ m).getD t nil2 = l.getD t nil2 := by
  rw [List.getD_eq_getElem?_getD, List.getD_eq_getElem?_getD, List.getElem?_append_left h]
theorem getD_set {l : List PR} {i t : Nat} {p : PR} (hi : i < l.length) : (l.set i p).getD t nil2 = if t = i then p else l.getD t nil2 := by
  rw [List.getD_eq_getElem?_getD, List.getD_eq_getElem?_getD, List.getElem?_set]
  by_cases h : i = t
  · subst h; simp [hi]
  · rw [if_neg h, if_neg (fun e => h e.symm)]
theorem shiftL_start (R : List PR) : shiftL R R.length = R ++ [nil2] := by
  refine getD_ext (by rw [shiftL_len]; simp) fun t ht => ?_
  rw [shiftL_len] at ht
  rw [shiftL_at R _ t ht, if_pos (by omega)]
theorem shiftL_step (R : List PR) (j : Nat) (hj : j + 1 ≤ R.length) : (shiftL R (j + 1)).set (j + 1) ((shiftL R (j + 1)).getD j nil2) = shiftL R j := by
  refine getD_ext (by rw [List.length_set, shiftL_len, shiftL_len]) fun t ht => ?_
  rw [List.length_set, shiftL_len] at ht
  rw [getD_set (by rw [shiftL_len]; omega), shiftL_at R j t ht]
  by_cases h : t = j + 1
  · subst h
    rw [if_pos rfl, if_neg (by omega), shiftL_at R (j + 1) j (by omega), if_pos (by omega), getD_app_l (by omega)]
    rfl
  · rw [if_neg h, shiftL_at R (j + 1) t ht]
    by_cases h2 : t ≤ j
    · rw [if_pos (by omega), if_pos h2]
    · rw [if_neg (by omega), if_neg h2]
def insL (R : List PR) (k : Nat) (x : PR) : List PR := R.take k ++ x :: R.drop k
theorem shiftL_end (R : List PR) (k : Nat) (x : PR) (hk : k ≤ R.length) : (shiftL R k).set k x = insL R k x := by
  have hl : (insL R k x).length = R.length + 1 := by unfold insL; simp; omega
  refine getD_ext (by rw [List.length_set, shiftL_len, hl]) fun t ht => ?_
  rw [List.length_set, shiftL_len] at ht
  rw [getD_set (by rw [shiftL_len]; omega), shiftL_at R k t ht]
  unfold insL
  rw [List.getD_eq_getElem?_getD (l := R.take k ++ x :: R.drop k)]
  by_cases h : t = k
  · subst h
    rw [if_pos rfl, List.getElem?_append_right (by simp; omega)]
    simp [Nat.min_eq_left hk]
  · rw [if_neg h]
    by_cases h2 : t ≤ k
    · rw [if_pos h2, getD_app_l (by omega), List.getElem?_append_left (by simp; omega), List.getElem?_take_of_lt (by omega), List.getD_eq_getElem?_getD]
    · rw [if_neg h2, List.getElem?_append_right (by simp; omega), List.length_take, Nat.min_eq_left hk]
      obtain ⟨d, rfl⟩ : ∃ d, t = k + 1 + d := ⟨t - k - 1, by omega⟩
      rw [show k + 1 + d - k = d + 1 by omega, List.getElem?_cons_succ, List.getElem?_drop, List.getD_eq_getElem?_getD, show k + 1 + d - 1 = k + d by omega]
theorem insL_mem (R : List PR) (k : Nat) (x q : PR) : q ∈ insL R k x ↔ q ∈ R ∨ q = x := by
  unfold insL
  conv => rhs; rw [← List.take_append_drop k R]
  simp only [List.mem_append, List.mem_cons]
  constructor
  · rintro (h | h | h)
    · exact Or.inl (Or.inl h)
    · exact Or.inr h
    · exact Or.inl (Or.inr h)
  · rintro ((h | h) | h)
    · exact Or.inl h
    · exact Or.inr (Or.inr h)
    · exact Or.inr (Or.inl h)
/-- Where all ahead of k are ahead of x, and x is ahead of the one at k, x has its place at k. -/
theorem insL_rises {R : List PR} {k : Nat} {x : PR} (hR : Rises R) (hk : k ≤ R.length) (h1 : ∀ t, t < k → ltP (R.getD t nil2) x = true) (h2 : k < R.length → ltP x (R.getD k nil2) = true) : Rises (insL R k x) := by
  unfold insL Rises
  have hd := hR.sublist (List.drop_sublist k R)
  have hkd : ∀ q ∈ R.drop k, ltP x q = true := fun q hq => by
    obtain ⟨i, hi, rfl⟩ := List.mem_iff_getElem.1 hq
    rw [List.length_drop] at hi
    have hx := h2 (by omega)
    rw [List.getElem_drop]
    rcases Nat.eq_zero_or_pos i with h0 | h0
    · subst h0
      rwa [List.getD_eq_getElem?_getD, List.getElem?_eq_getElem (by omega)] at hx
    · refine ltL_trans _ _ _ hx ?_
      have := List.pairwise_iff_getElem.1 hR k (k + i) (by omega) (by omega) (by omega)
      rwa [List.getD_eq_getElem?_getD, List.getElem?_eq_getElem (show k < R.length by omega)]
  rw [List.pairwise_append]
  refine ⟨hR.sublist (List.take_sublist k R), List.pairwise_cons.2 ⟨hkd, hd⟩, fun p hp q hq => ?_⟩
  obtain ⟨i, hi, rfl⟩ := List.mem_iff_getElem.1 hp
  rw [List.length_take] at hi
  have hx := h1 i (by omega)
  rw [List.getElem_take]
  rw [List.getD_eq_getElem?_getD, List.getElem?_eq_getElem (show i < R.length by omega)] at hx
  rcases List.mem_cons.1 hq with rfl | hq
  · exact hx
  · exact ltL_trans _ _ _ hx (hkd q hq)

/-! ## the row so far -/
def rowL (l : List PR) (i : Nat) : List PR := sortP (ded (l.take i))
theorem rowL_okR {l : List PR} {i : Nat} (h : ∀ t, t < i → okR (l.getD t nil2)) (hi : i ≤ l.length) : ∀ p ∈ l.take i, okR p := fun p hp => by
  obtain ⟨t, ht, rfl⟩ := List.mem_iff_getElem.1 hp
  rw [List.length_take] at ht
  have := h t (by omega)
  rw [List.getElem_take]
  rwa [List.getD_eq_getElem?_getD, List.getElem?_eq_getElem (show t < l.length by omega)] at this
theorem rowL_there {l : List PR} {i : Nat} (hi : i < l.length) (h : ∀ t, t < i + 1 → okR (l.getD t nil2)) (hm : l.getD i nil2 ∈ rowL l i) : rowL l (i + 1) = rowL l i := by
  have h1 := rowL_okR h (by omega)
  have h2 := rowL_okR (fun t ht => h t (by omega)) (show i ≤ l.length by omega)
  refine list_same h1 h2 fun p => ?_
  rw [take_step hi]
  simp only [List.mem_append, List.mem_singleton]
  exact ⟨fun k => k.elim id fun e => by rw [e]; exact (list_mem _ _).1 hm, Or.inl⟩
theorem rowL_ins {l : List PR} {i k : Nat} (hi : i < l.length) (h : ∀ t, t < i + 1 → okR (l.getD t nil2)) (hk : k ≤ (rowL l i).length) (h1 : ∀ t, t < k → ltP ((rowL l i).getD t nil2) (l.getD i nil2) = true) (h2 : k < (rowL l i).length → ltP (l.getD i nil2) ((rowL l i).getD k nil2) = true) : insL (rowL l i) k (l.getD i nil2) = rowL l (i + 1) := by
  have o1 := rowL_okR h (by omega)
  have o2 := rowL_okR (fun t ht => h t (by omega)) (show i ≤ l.length by omega)
  refine rises_eq _ _ (insL_rises (list_rises o2) hk h1 h2) (list_rises o1) fun p => ?_
  rw [insL_mem]
  unfold rowL
  rw [list_mem, list_mem, take_step hi]
  simp
theorem rowL_zero (l : List PR) : rowL l 0 = [] := by unfold rowL ded sortP; simp
theorem rowL_len (l : List PR) (i : Nat) : (rowL l i).length ≤ i := by
  unfold rowL
  rw [sortP_len]
  exact Nat.le_trans (ded_len _) (List.length_take_le _ _)

/-! ## a store into the row -/
theorem cellsP_set : ∀ (l : List PR) (i : Nat) (p : PR), ((cellsP l).set (i * 2) (.string (T p.1))).set (i * 2 + 1) (.string (T p.2)) = cellsP (l.set i p)
  | [], _, _ => rfl
  | q :: l, 0, p => by simp [cellsP]
  | q :: l, i + 1, p => by
    have ih := cellsP_set l i p
    rw [show (i + 1) * 2 = i * 2 + 1 + 1 by omega]
    simp only [cellsP, List.set_cons_succ]
    rw [ih]
theorem OwnP.frozen {w : World} {base n c g : Nat} {l : List PR} (h : OwnP w base (some ⟨g, 0, none⟩) n c l) (i : Nat) : w.frozen? ⟨g, i, none⟩ = false := by
  obtain ⟨_, cur, hg, _⟩ := own_block h
  simp [World.frozen?, hg]
theorem OwnP.set {w : World} {base n c g : Nat} {l : List PR} (h : OwnP w base (some ⟨g, 0, none⟩) n c l) (i : Nat) (p : PR) (hp : okP p) (hi : i < n) :
    OwnP ((w.setCell ⟨g, i * 2, none⟩ (.string (T p.1))).setCell ⟨g, i * 2 + 1, none⟩ (.string (T p.2))) base (some ⟨g, 0, none⟩) n c (l.set i p) := by
  refine ⟨fun q hq => ?_, by rw [List.length_set]; exact h.2.1, ?_, ?_, ?_⟩
  · rcases List.mem_or_eq_of_mem_set hq with h1 | h1
    · exact h.1 q h1
    · subst h1; exact hp
  · simpa [World.setCell] using h.2.2.1
  · rw [cellsP_len, List.length_set, h.2.1]
  · rcases h.2.2.2.2 with ⟨he, h0⟩ | ⟨g', cap, cur, he, hb, hg, hnc, hcm, hsz, ht⟩
    · cases he
    · injection he with e1 e2 e3
      simp at e1
      subst e1
      refine .inr ⟨g, cap, (cur.setIfInBounds (i * 2) (.string (T p.1))).setIfInBounds (i * 2 + 1) (.string (T p.2)), ?_, hb, ?_, hnc, hcm, by simpa using hsz, ?_⟩
      · rw [← e3]
      · simp [World.setCell, Array.getElem?_modify, hg]
      · rw [← cellsP_set, ← ht]
        simp only [Array.toList_setIfInBounds, List.take_set]
theorem OwnP.cellAt {w : World} {base n c g : Nat} {l : List PR} (h : OwnP w base (some ⟨g, 0, none⟩) n c l) (i : Nat) (hi : i < n) : w.cell? ⟨g, i * 2, none⟩ = some (.string (T (l.getD i nil2).1)) ∧ w.cell? ⟨g, i * 2 + 1, none⟩ = some (.string (T (l.getD i nil2).2)) ∧ g < w.heap.size ∧ base ≤ g := by
  obtain ⟨hb, cur, hg, ht⟩ := own_block h
  obtain ⟨b, off, e, hlt, h0, h1⟩ := h.prs.2 i (by rw [h.2.1]; exact hi)
  simp at e
  obtain ⟨rfl, rfl⟩ := e
  rw [Nat.zero_add] at h0 h1
  exact ⟨h0, h1, hlt, hb⟩
end Go.Proofs.Ytmimfojlcihhaaa.Pi8
