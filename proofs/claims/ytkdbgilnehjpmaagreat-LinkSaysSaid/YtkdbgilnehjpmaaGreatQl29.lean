/-
  Texts beneath the proof, one behind the other.
-/
import Derived.Recover
import Derived.Defers
import Derived.Test.YtkdbgilnehjpmaaGreatQl27
import Derived.Test.YtkdbgilnehjpmaaGreatQl28
import Derived.Test.YtkdbgilnehjpmaaGreatQl15
import Derived.Test.YtkdbgilnehjpmaaGreatQl19
import Derived.Test.YtkdbgilnehjpmaaGreatQl25
import Derived.Test.YtkdbgilnehjpmaaGreatQl5
/-
  The program's View.hashed: an object Data whose hash is right.
-/
namespace Go.Proofs.YtkdbgilnehjpmaaGreat.Rk
open Go.ChangeShapes Go.WideShapes Go.ChangeAt Go.RowKit
open Bytes8 Blk8 Own8 OwnM OwnE LeA LeNum LeP Rows2 Ob Oc Od Ga Gb Gc Gd Gf Gi Gj Oi Oj Ok7 Np Sg Ra Rc Rd Re Rj
set_option linter.unusedVariables false
set_option linter.unusedSimpArgs false
set_option maxRecDepth 100000
attribute [local irreducible] wpList Code.wp ofS bnum bpay bcode
end Go.Proofs.YtkdbgilnehjpmaaGreat.Rk
/-
  The program's View.Payload, told.
-/
namespace Go.Proofs.YtkdbgilnehjpmaaGreat.Rl
open Go.ChangeShapes Go.WideShapes Go.ChangeAt Go.RowKit
open Bytes8 Blk8 Own8 OwnM OwnE LeA LeNum LeP Rows2 Ob Oc Od Ga Gb Gc Gd Gf Gi Gj Oi Oj Ok7 Np Sg Ra Rc Rk
open Rd (dz)
open Re (bytes_code load_code ReadD)
set_option linter.unusedVariables false
set_option linter.unusedSimpArgs false
set_option maxRecDepth 100000
attribute [local irreducible] wpList Code.wp
end Go.Proofs.YtkdbgilnehjpmaaGreat.Rl
/-
  What the program's View.record gathers: plain, and in memory.
-/
namespace Go.Proofs.YtkdbgilnehjpmaaGreat.Rm
open Go.ChangeShapes Go.WideShapes Go.ChangeAt Go.RowKit
open Bytes8 Blk8 Own8 OwnM OwnE OwnA LeA LeNum LeP Rows2 Ob Oc Od Ga Gb Gc Gd Gf Gi Gj Oi Oj Ok7 Np Sg Nr Pr8 Fa Fsp Dc Ya Ra Rc Rk Rj
open Rd (dcode dz)
set_option linter.unusedVariables false
set_option linter.unusedSimpArgs false
set_option maxRecDepth 100000
/-! ## plain -/
/-! ## in memory -/
structure Row4 where
  b : Nat
  off : Nat
  m : Nat
  c : Nat
theorem bytes_keptB {w w' : World} {A : Option Addr} {l : List Int} (h : Bytes w A l) (hs : w.heap.size ≤ w'.heap.size) (hk : ∀ b off, A = some ⟨b, off, none⟩ → b < w.heap.size → w'.heap[b]? = w.heap[b]?) : Bytes w' A l := ⟨h.1, fun i hi => by
  obtain ⟨b, off, e, hb, hc⟩ := h.2 i hi
  exact ⟨b, off, e, Nat.lt_of_lt_of_le hb hs, (World.cell?_of_block (a := ⟨b, off + i, none⟩) (hk b off e hb)).trans hc⟩⟩
section
variable {w4 wr : World} {s6 : Nat} {s r m : Int} {K : Nat → Int} {P : Nat → List Int} {F : Option Addr} {cF : Nat} {PA : Option Addr} {cP : Nat} {rows : List Row4} {kf kp : Nat}
end
/-! ## a pair that was split -/
attribute [local irreducible] wpList Code.wp
end Go.Proofs.YtkdbgilnehjpmaaGreat.Rm
