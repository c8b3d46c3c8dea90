/-
  Two rows of bytes held against each other; bytes out of a literal.
-/
import Derived.Test.YtekmbgcijkdkfaaTx
namespace Go.Proofs.Ytekmbgcijkdkfaa.Ff
open Go.ChangeShapes Go.WideShapes Go.ChangeAt Go.RowKit
open Bytes8 Blk8 Fa
set_option linter.unusedVariables false
set_option maxRecDepth 100000
set_option linter.unusedSimpArgs false

theorem same_any (a b : Option Addr) (l m : List Int) (n c k d : Nat) (w : World) (ha : Bytes w a l) (hb : Bytes w b m) (hn : l.length = n) (hm : m.length = k) :
    Calls Try.prog 18 #[.slice a n c, .slice b k d] w fun e w' => e = .returned (.bool (decide (l = m))) ∧ w = w' := by
  have h1 := ha.string c n hn
  have h2 := hb.string d k hm
  have h3 := T_beq ha.1 hb.1
  generalize decide (l = m) = z at *
  dsimp only [T] at h3
  generalize strOfNums l = S at *
  generalize strOfNums m = S2 at *
  clear ha hb hn hm
  go_enter Try.func18, Try.ntmps18
  go_wp2
  go_ret
  exact ⟨rfl, rfl⟩

theorem const_bytes (l : List Int) (hA : AllB l) (w : World) (M : Nat × Nat) : Bytes (w.alloc (.cells (l.map (Value.int .u8)).toArray 5 M)) (some ⟨w.heap.size, 0, none⟩) l := by
  refine ⟨hA, fun i hi => ⟨w.heap.size, 0, rfl, by simp, ?_⟩⟩
  rw [Nat.zero_add, World.cell?_alloc_mark, List.getElem?_toArray, List.getElem?_map, List.getElem?_eq_getElem hi]
  simp [List.getElem?_eq_getElem hi]
theorem small_all {l : List Int} (h : l.all (fun x => decide (0 ≤ x) && decide (x < 256)) = true) : AllB l := fun n hn => by
  have := List.all_eq_true.1 h n hn
  simpa using this
end Go.Proofs.Ytekmbgcijkdkfaa.Ff
