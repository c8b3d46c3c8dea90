/-
  Rows of texts: what a call gathers, what can be read.
-/
import Derived.Test.YtpgkimohekdmmaaTx
import Derived.Test.YtpgkimohekdmmaaOwnE
namespace Go.Proofs.Ytpgkimohekdmmaa.Pv8
open Go.ChangeShapes Go.WideShapes Go.ChangeAt Go.RowKit
open Bytes8 Blk8 Own8 OwnE Fa
set_option linter.unusedVariables false
set_option maxRecDepth 100000
set_option linter.unusedSimpArgs false


def cellsT (vs : List (List Int)) : List Value := vs.map fun v => .string (T v)
/-- Texts that a call gathers. -/
def OwnT (w : World) (base : Nat) (A : Option Addr) (n c : Nat) (vs : List (List Int)) : Prop := vs.length = n ∧ OwnE 9 1 w base A n c (cellsT vs)
theorem OwnT.alloc {w : World} {base : Nat} {A : Option Addr} {n c : Nat} {vs : List (List Int)} (h : OwnT w base A n c vs) (o : Obj) : OwnT (w.alloc o) base A n c vs := ⟨h.1, h.2.alloc o⟩
def Txts (w : World) (a : Option Addr) (vs : List (List Int)) : Prop :=
  ∀ i, i < vs.length → ∃ b off, a = some ⟨b, off, none⟩ ∧ b < w.heap.size ∧ w.cell? ⟨b, off + i, none⟩ = some (.string (T (vs.getD i [])))
theorem Txts.below {w w' : World} {a : Option Addr} {vs : List (List Int)} (h : Txts w a vs) (hb : Below w.heap.size w w') : Txts w' a vs := fun i hi => by
  obtain ⟨b, off, e, h1, h2⟩ := h i hi
  exact ⟨b, off, e, Nat.lt_of_lt_of_le h1 hb.size, (hb.cell (p := ⟨b, off + i, none⟩) h1).trans h2⟩
theorem OwnT.txts {w : World} {base : Nat} {A : Option Addr} {n c : Nat} {vs : List (List Int)} (h : OwnT w base A n c vs) : Txts w A vs := fun i hi => by
  obtain ⟨g, e, hb, hlt, hc⟩ := h.2.cell (i := i) (by unfold cellsT; rw [List.length_map]; exact hi)
  refine ⟨g, 0, e, hlt, ?_⟩
  rw [Nat.zero_add, hc]
  unfold cellsT
  rw [List.getElem?_map, List.getElem?_eq_getElem hi]
  simp [List.getElem?_eq_getElem hi]
end Go.Proofs.Ytpgkimohekdmmaa.Pv8
