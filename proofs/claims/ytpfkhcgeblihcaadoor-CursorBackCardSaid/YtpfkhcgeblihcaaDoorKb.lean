/-
  What a call leaves that writes one block of those that were there.
-/
import Derived.Test.YtpfkhcgeblihcaaDoorBlk
namespace Go.Proofs.YtpfkhcgeblihcaaDoor.Seq8
open Go.ChangeShapes Go.WideShapes Go.ChangeAt Go.RowKit
open Bytes8 Blk8
set_option linter.unusedVariables false
set_option maxRecDepth 100000
set_option linter.unusedSimpArgs false

/-- Blocks below B, but g, are as they were. -/
structure KeptB (B g : Nat) (w w' : World) : Prop where
  os : w'.os = w.os
  tape : w'.tape = w.tape
  output : w'.output = w.output
  size : w.heap.size ≤ w'.heap.size
  block : ∀ k, k < B → k ≠ g → w'.heap[k]? = w.heap[k]?
theorem KeptB.of_below {B g : Nat} {w w' : World} (h : Below B w w') : KeptB B g w w' := ⟨h.os, h.tape, h.output, h.size, fun k hk _ => h.block k hk⟩
theorem KeptB.refl (B g : Nat) (w : World) : KeptB B g w w := KeptB.of_below (Below.refl B w)
theorem KeptB.trans {B g : Nat} {a b c : World} (h : KeptB B g a b) (k : KeptB B g b c) : KeptB B g a c :=
  ⟨k.os.trans h.os, k.tape.trans h.tape, k.output.trans h.output, Nat.le_trans h.size k.size, fun i hi hg => (k.block i hi hg).trans (h.block i hi hg)⟩
theorem KeptB.mono {B B' g : Nat} {w w' : World} (h : KeptB B g w w') (hB : B' ≤ B) : KeptB B' g w w' := ⟨h.os, h.tape, h.output, h.size, fun k hk hg => h.block k (Nat.lt_of_lt_of_le hk hB) hg⟩
theorem KeptB.below {B g : Nat} {w w' : World} (h : KeptB B g w w') (hg : B ≤ g) : Below B w w' := ⟨h.os, h.tape, h.output, h.size, fun k hk => h.block k hk (by omega)⟩
theorem KeptB.drewN {B g : Nat} {a w : World} (h : KeptB B g a w) (n : Nat) : KeptB B g a (w.drewN n) := ⟨h.os, h.tape, h.output, h.size, h.block⟩
theorem KeptB.drew {B g : Nat} {a w : World} (h : KeptB B g a w) : KeptB B g a w.drew := ⟨h.os, h.tape, h.output, h.size, h.block⟩
theorem KeptB.alloc {B g : Nat} {a w : World} (h : KeptB B g a w) (hB : B ≤ w.heap.size) (o : Obj) : KeptB B g a (w.alloc o) := h.trans (KeptB.of_below ((Below.refl B w).alloc hB o))
theorem KeptB.setCell {B g : Nat} {a w : World} (h : KeptB B g a w) {p : Addr} (hp : B ≤ p.block ∨ p.block = g) (u : Value) : KeptB B g a (w.setCell p u) :=
  h.trans ⟨rfl, rfl, rfl, by simp [World.setCell], fun k hk hg => Below.heap_setCell _ _ _ _ (by rcases hp with h | h <;> omega)⟩
theorem Blk.keptB {w w' : World} {B g k : Nat} {vs : List Value} {T : TypeId} (h : Blk w k vs T) (hk : KeptB B g w w') (h1 : k < B) (h2 : k ≠ g) : Blk w' k vs T := (hk.block k h1 h2).trans h
end Go.Proofs.YtpfkhcgeblihcaaDoor.Seq8
