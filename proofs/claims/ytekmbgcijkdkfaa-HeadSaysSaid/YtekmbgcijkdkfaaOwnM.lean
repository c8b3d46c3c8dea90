/-
  More words for bytes that a call gathers by append: where they lie, their cells, and what another call's writes leave of them.
-/
import Derived.Test.YtekmbgcijkdkfaaOwn
import Derived.Test.YtekmbgcijkdkfaaBlk
namespace Go.Proofs.Ytekmbgcijkdkfaa.OwnM
open Go.ChangeShapes Go.WideShapes Go.ChangeAt Go.RowKit
open Bytes8 Blk8 Own8
set_option linter.unusedVariables false
set_option maxRecDepth 100000

theorem own_cap {w : World} {base n c : Nat} {A : Option Addr} {l : List Int} (h : Own w base A n c l) : n ≤ c ∧ c ≤ maxLen := by
  rcases h.2.2.2.2 with ⟨he, h0⟩ | ⟨g, cap, cur, he, _, _, h1, h2, _⟩
  · injection he with e1 e2 e3; subst e3; exact ⟨by omega, by decide⟩
  · injection he with e1 e2 e3; subst e3; exact ⟨h1, h2⟩
/-- A call that writes one block, another one, leaves it. -/
theorem own_grown {w w' : World} {base n c g : Nat} {A : Option Addr} {l : List Int} (h : Own w base A n c l) (hg : w.grownBy w' (some g)) (hlt : g < base) : Own w' base A n c l := by
  refine ⟨h.1, h.2.1, Nat.le_trans h.2.2.1 hg.size, h.2.2.2.1, ?_⟩
  rcases h.2.2.2.2 with h1 | ⟨k, cap, cur, h1, h2, h3, h4⟩
  · exact .inl h1
  · refine .inr ⟨k, cap, cur, h1, h2, ?_, h4⟩
    have hk : k < w.heap.size := by
      rcases Nat.lt_or_ge k w.heap.size with h | h
      · exact h
      · rw [Array.getElem?_eq_none h] at h3; cases h3
    rw [hg.block k hk (by intro e; injection e with e; omega)]; exact h3
theorem blk_grown {w w' : World} {b g : Nat} {vs : List Value} {T : TypeId} (h : Blk w b vs T) (hg : w.grownBy w' (some g)) (hne : b ≠ g) : Blk w' b vs T :=
  (hg.block b h.lt (by intro e; injection e with e; exact hne e)).trans h
theorem below_own {w0 w w' : World} {B g : Nat} (h : Below B w0 w) (hg : w.grownBy w' (some g)) (hB : B ≤ w.heap.size) (hg2 : B ≤ g) : Below B w0 w' :=
  h.grown hg hB (fun k e => by injection e with e; omega)
end Go.Proofs.Ytekmbgcijkdkfaa.OwnM
