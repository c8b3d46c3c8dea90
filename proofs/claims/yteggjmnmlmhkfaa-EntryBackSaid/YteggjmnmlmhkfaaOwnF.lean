/-
  'append' onto a slice of whatever elements: where the new one lies.
-/
import Derived.Test.YteggjmnmlmhkfaaOwnA
import Derived.Test.YteggjmnmlmhkfaaOwnE
import Derived.Maps.AppendAt
namespace Go.Proofs.Yteggjmnmlmhkfaa.Dc
open Go.ChangeShapes Go.WideShapes Go.ChangeAt Go.RowKit
open Bytes8 Blk8 Own8 OwnA OwnM OwnE
set_option linter.unusedVariables false
set_option linter.unusedSimpArgs false
set_option maxRecDepth 100000

/-! ## 'append' onto a slice of whatever elements: where the new one lies -/
theorem run_append_elt_at {E S : TypeId} {size bytes : Nat} {z : Value} (he : Elt E S size bytes z) (w : World) (ty : TypeId) (base : Nat) (A : Option Addr) (n c : Nat) (xs : List Value) (ho : OwnE E size w base A n c xs) (ad : Addr) (m c2 : Nat) (news : List Value) (hl : news.length = m * size)
    (hnews : ∀ j u, news[j]? = some u → w.cell? (ad.add j) = some u) (h1 : ∀ u ∈ news, u.oneCell' = true) (h63 : n + m ≤ 4611686018427387904) (hbytes : (n + m) * bytes ≤ 140737488355328) (hml : n + m ≤ maxLen) :
    ∃ A' c' w', (Builtin.append_ #[S, S] ty #[.slice A n c, .slice (some ad) m c2]).run Try.prog w = .ok (.slice A' (n + m) c') w' ∧ OwnE E size w' base A' (n + m) c' (xs ++ news) ∧ w.grownBy w' (ownB A) ∧ (ownB A' = ownB A ∨ ownB A' = some w.heap.size) := by
  obtain ⟨i, hi, hzz⟩ := Option.map_eq_some_iff.1 he.info
  simp only [Prod.mk.injEq] at hzz
  obtain ⟨hz, hs, hby⟩ := hzz
  obtain ⟨v', w', hr, h2, h3, h4, h5⟩ := run_append_own_at (P := Try.prog) w base S ty E i z size bytes he.under hi hz hs hby he.zero he.pos _ n xs ho.2 ad m c2 news hl hnews h1 hml hbytes ho.1
  rw [ownB_eq] at h3 h5
  rcases h2.2 with ⟨rfl, h0⟩ | ⟨g, cap, cur, rfl, _⟩
  · rw [h0] at h2 ⊢
    rw [ownB_eq] at h5
    exact ⟨none, 0, w', hr, ⟨Nat.le_trans ho.1 h3.size, h2⟩, h3, h5⟩
  · rw [ownB_eq] at h5
    exact ⟨_, _, w', hr, ⟨Nat.le_trans ho.1 h3.size, h2⟩, h3, h5⟩
theorem wpList_append_elt_at {E S : TypeId} {size bytes : Nat} {z : Value} (he : Elt E S size bytes z) {w : World} {ops : Array Oper} {rest : List Oper} {o : Oper} {a : Act} {Q : Exit → Act → World → Prop} (hgd : o.guard = none) (s x : Operand)
    (hop : o.op = .call { callee := .builtin .append, args := #[s, x], argTypes := #[S, S] })
    (base : Nat) (A : Option Addr) (n c : Nat) (xs : List Value) (hs : a.eval s = .slice A n c) (ho : OwnE E size w base A n c xs) (ad : Addr) (m c2 : Nat) (news : List Value) (hx : a.eval x = .slice (some ad) m c2) (hl : news.length = m * size)
    (hnews : ∀ j u, news[j]? = some u → w.cell? (ad.add j) = some u) (h1 : ∀ u ∈ news, u.oneCell' = true) (h63 : n + m ≤ 4611686018427387904) (hbytes : (n + m) * bytes ≤ 140737488355328) (hml : n + m ≤ maxLen)
    (h : ∀ A' c' w', OwnE E size w' base A' (n + m) c' (xs ++ news) → w.grownBy w' (ownB A) → (ownB A' = ownB A ∨ ownB A' = some w.heap.size) → wpList Try.prog ops Q rest (a.put o.dst (.slice A' (n + m) c')) w') : wpList Try.prog ops Q (o :: rest) a w :=
  wpList_plain hgd fun _ hK => by
    obtain ⟨A', c', w', hr, h2, h3, h4⟩ := run_append_elt_at he w o.type base A n c xs ho ad m c2 news hl hnews h1 h63 hbytes hml
    unfold Oper.wp execOp
    simp only [hop, resolve, invoke, builtin, Sem.run_bind, Sem.run_pure, Result.andThen_ok, List.map_toArray, List.map_cons, List.map_nil, hs, hx, hr]
    exact hK _ _ (h A' c' w' h2 h3 h4)
theorem step_append_elt_at {E S : TypeId} {size bytes : Nat} {z : Value} (he : Elt E S size bytes z) {w : World} {ops : Array Oper} {o : Oper} {a : Act} {K : Act → World → Prop} {Q : Exit → Act → World → Prop} {F : Prop} (hgd : o.guard = none) (s x : Operand)
    (hop : o.op = .call { callee := .builtin .append, args := #[s, x], argTypes := #[S, S] })
    (base : Nat) (A : Option Addr) (n c : Nat) (xs : List Value) (hs : a.eval s = .slice A n c) (ho : OwnE E size w base A n c xs) (ad : Addr) (m c2 : Nat) (news : List Value) (hx : a.eval x = .slice (some ad) m c2) (hl : news.length = m * size)
    (hnews : ∀ j u, news[j]? = some u → w.cell? (ad.add j) = some u) (h1 : ∀ u ∈ news, u.oneCell' = true) (h63 : n + m ≤ 4611686018427387904) (hbytes : (n + m) * bytes ≤ 140737488355328) (hml : n + m ≤ maxLen)
    (h : ∀ A' c' w', OwnE E size w' base A' (n + m) c' (xs ++ news) → w.grownBy w' (ownB A) → (ownB A' = ownB A ∨ ownB A' = some w.heap.size) → K (a.put o.dst (.slice A' (n + m) c')) w') :
    if Region.wanted o (yielded ops a.tmps) = true then Oper.wp Try.prog o a w K Q else F := by
  have hw : Region.wanted o (yielded ops a.tmps) = true := by simp [Region.wanted, hgd]
  rw [if_pos hw]
  obtain ⟨A', c', w', hr, h2, h3, h4⟩ := run_append_elt_at he w o.type base A n c xs ho ad m c2 news hl hnews h1 h63 hbytes hml
  unfold Oper.wp execOp
  simp only [hop, resolve, invoke, builtin, Sem.run_bind, Sem.run_pure, Result.andThen_ok, List.map_toArray, List.map_cons, List.map_nil, hs, hx, hr]
  exact h A' c' w' h2 h3 h4
/-- .. where the operation has a guard that says yes. -/
theorem wpList_append_elt_want {E S : TypeId} {size bytes : Nat} {z : Value} (he : Elt E S size bytes z) {w : World} {ops : Array Oper} {rest : List Oper} {o : Oper} {a : Act} {Q : Exit → Act → World → Prop} (hw : Region.wanted o (yielded ops a.tmps) = true) (s x : Operand)
    (hop : o.op = .call { callee := .builtin .append, args := #[s, x], argTypes := #[S, S] })
    (base : Nat) (A : Option Addr) (n c : Nat) (xs : List Value) (hs : a.eval s = .slice A n c) (ho : OwnE E size w base A n c xs) (ad : Addr) (m c2 : Nat) (news : List Value) (hx : a.eval x = .slice (some ad) m c2) (hl : news.length = m * size)
    (hnews : ∀ j u, news[j]? = some u → w.cell? (ad.add j) = some u) (h1 : ∀ u ∈ news, u.oneCell' = true) (h63 : n + m ≤ 4611686018427387904) (hbytes : (n + m) * bytes ≤ 140737488355328)
    (h : ∀ A' c' w', OwnE E size w' base A' (n + m) c' (xs ++ news) → Below base w w' → wpList Try.prog ops Q rest (a.put o.dst (.slice A' (n + m) c')) w') : wpList Try.prog ops Q (o :: rest) a w :=
  BigFrame.wpList_want hw fun _ hK => wp_append_elt he s x hop base A n c xs hs ho ad m c2 news hx hl hnews h1 h63 hbytes fun A' c' w' h1 h2 => hK _ _ (h A' c' w' h1 h2)
/-- A row of the call's own stays, where another one grew. -/
theorem OwnE.keptG {E : TypeId} {size : Nat} {w w' : World} {base n c : Nat} {row : Option Nat} {A : Option Addr} {xs : List Value} (h : OwnE E size w base A n c xs) (hg : w.grownBy w' row) (hne : ∀ g, ownB A = some g → row ≠ some g) : OwnE E size w' base A n c xs := by
  refine ⟨Nat.le_trans h.1 hg.size, h.2.1, ?_⟩
  rcases h.2.2 with h1 | ⟨k, cap, cur, h1, h2, h3, h4⟩
  · exact .inl h1
  · refine .inr ⟨k, cap, cur, h1, h2, ?_, h4⟩
    have hk : k < w.heap.size := by
      rcases Nat.lt_or_ge k w.heap.size with h | h
      · exact h
      · rw [Array.getElem?_eq_none h] at h3; cases h3
    injection h1 with e1 e2 e3
    subst e1
    rw [hg.block k hk (fun e => hne k rfl e.symm)]; exact h3
theorem apart_grown {w : World} {A A' B : Option Addr} (hap : Apart A B) (hB : ∀ g, ownB B = some g → g < w.heap.size) (hat : ownB A' = ownB A ∨ ownB A' = some w.heap.size) : Apart A' B := fun g hg hg2 => by
  rcases hat with h3 | h3
  · exact hap g (h3 ▸ hg) hg2
  · rw [h3] at hg
    injection hg with hg
    have := hB g hg2
    omega
theorem OwnE.ltB {E : TypeId} {size : Nat} {w : World} {base n c : Nat} {A : Option Addr} {xs : List Value} (h : OwnE E size w base A n c xs) : ∀ g, ownB A = some g → base ≤ g ∧ g < w.heap.size := fun g hg => h.lt g (by rw [ownB_eq]; exact hg)
end Go.Proofs.Yteggjmnmlmhkfaa.Dc
