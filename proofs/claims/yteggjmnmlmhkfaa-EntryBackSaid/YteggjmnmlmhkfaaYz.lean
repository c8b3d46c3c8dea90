/-
  Two small laws: a row of elements behind a store elsewhere; a struct built, its cells said.
-/
import Derived.Test.YteggjmnmlmhkfaaYi
namespace Go.Proofs.Yteggjmnmlmhkfaa.Yz
open Go.ChangeShapes Go.WideShapes Go.ChangeAt Go.RowKit
open Bytes8 Blk8 Own8 OwnM OwnE OwnA Rows2 Ob Yc Yp Yd Yg Yi
set_option linter.unusedVariables false
set_option linter.unusedSimpArgs false

theorem OwnE.farE {E : TypeId} {size : Nat} {w : World} {base : Nat} {A : Option Addr} {n c : Nat} {xs : List Value} (h : OwnE E size w base A n c xs) {a : Addr} (ha : a.block < base) (u : Value) : OwnE E size (w.setCell a u) base A n c xs :=
  ⟨by simpa using h.1, ownsRow_setCell_below h.2 ha u⟩
theorem wpList_build_as {P : Program} {ops : Array Oper} {rest : List Oper} {o : Oper} {a : Act} {w : World} {Q : Exit → Act → World → Prop} (hg : o.guard = none) (t : TypeId) (parts : Array (Nat × Operand)) (ho : o.op = .build t parts) (cells : Array Value)
    (hb : P.built t (parts.map fun (i, x) => (i, a.eval x)).toList = some cells) (h : wpList P ops Q rest (a.put o.dst (.agg cells)) w) : wpList P ops Q (o :: rest) a w :=
  wpList_build hg t parts ho (by rw [hb]; rfl) (by rw [hb]; exact h)
end Go.Proofs.Yteggjmnmlmhkfaa.Yz
