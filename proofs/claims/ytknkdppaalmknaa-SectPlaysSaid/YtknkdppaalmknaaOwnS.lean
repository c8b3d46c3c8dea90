/-
  'append(b, s...)' of a text onto bytes of the call's own.
-/
import Derived.Test.YtknkdppaalmknaaOwn
import Derived.Test.YtknkdppaalmknaaTx
import Derived.Lib.AppendStr
namespace Go.Proofs.Ytknkdppaalmknaa.OwnS
open Go.ChangeShapes Go.WideShapes Go.ChangeAt Go.RowKit
open Bytes8 Own8 Fa
set_option linter.unusedVariables false

theorem strCells_T {l : List Int} (h : AllB l) : Lib.strCells (T l) = l.map (Value.int .u8) := by
  have hn := num_T h
  unfold Lib.strCells
  conv => rhs; rw [← hn]
  unfold num
  rw [List.map_map, ByteArray.toList_eq]
  rfl

theorem run_append_text (w : World) (ty : TypeId) (base : Nat) (A : Option Addr) (n c : Nat) (l : List Int) (ho : Own w base A n c l) (ys : List Int) (hb : AllB ys) (m : Nat) (hm : ys.length = m) (hsz : n + m ≤ 70368744177664) :
    ∃ A' c' w', (Builtin.append_ #[27, 9] ty #[.slice A n c, .string (T ys)]).run Try.prog w = .ok (.slice A' (n + m) c') w' ∧ Own w' base A' (n + m) c' (l ++ ys) ∧ Below base w w' := by
  subst hm
  obtain ⟨i, hi, hzz⟩ := Option.map_eq_some_iff.1 info8
  simp only [Prod.mk.injEq] at hzz
  obtain ⟨hz, hs, hby⟩ := hzz
  have hown := ho.2.2.2
  have hT := T_size ys
  obtain ⟨v', w', hr, h2, h3, _⟩ := Lib.run_append_own_string (P := Try.prog) w base 27 9 ty 5 i Try.underlying27 Try.underlying9 hi hz hs hby _ n _ hown (T ys) (by unfold maxLen; omega) (by omega) ho.2.2.1
  rw [strCells_T hb, ← List.map_append] at h2
  rw [hT] at h2
  have hbel := below_grown h3 ho.2.2.1 (fun k hk => (ho.lt k hk).1)
  have hL : (l ++ ys).length = n + ys.length := by rw [List.length_append, ho.2.1]
  rcases h2.2 with ⟨rfl, h0⟩ | ⟨g, cap, cur, rfl, _⟩
  · rw [h0] at h2 hL ⊢
    exact ⟨none, 0, w', hr, ⟨ho.1.app hb, hL, Nat.le_trans ho.2.2.1 hbel.size, h2⟩, hbel⟩
  · exact ⟨_, _, w', hr, ⟨ho.1.app hb, hL, Nat.le_trans ho.2.2.1 hbel.size, h2⟩, hbel⟩

theorem wpList_append_text {w : World} {ops : Array Oper} {rest : List Oper} {o : Oper} {a : Act} {Q : Exit → Act → World → Prop} (hgd : o.guard = none) (s x : Operand)
    (hop : o.op = .call { callee := .builtin .append, args := #[s, x], argTypes := #[27, 9] })
    (base : Nat) (A : Option Addr) (n c : Nat) (l : List Int) (hs : a.eval s = .slice A n c) (ho : Own w base A n c l) (ys : List Int) (m : Nat) (hx : a.eval x = .string (T ys)) (hb : AllB ys) (hm : ys.length = m) (hsz : n + m ≤ 70368744177664)
    (h : ∀ A' c' w', Own w' base A' (n + m) c' (l ++ ys) → Below base w w' → wpList Try.prog ops Q rest (a.put o.dst (.slice A' (n + m) c')) w') : wpList Try.prog ops Q (o :: rest) a w :=
  wpList_plain hgd fun _ hK => by
    obtain ⟨A', c', w', hr, h1, h2⟩ := run_append_text w o.type base A n c l ho ys hb m hm hsz
    unfold Oper.wp execOp
    simp only [hop, resolve, invoke, builtin, Sem.run_bind, Sem.run_pure, Result.andThen_ok, List.map_toArray, List.map_cons, List.map_nil, hs, hx, hr]
    exact hK _ _ (h A' c' w' h1 h2)
end Go.Proofs.Ytknkdppaalmknaa.OwnS
