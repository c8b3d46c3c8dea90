/-
  Texts beneath the proof, one behind the other.
-/
import Derived.Test.YtldkmobncmfodaaGreatQ14

/-
  What the document takes of a head's bytes.
-/
namespace Go.Proofs.YtldkmobncmfodaaGreat.Gq
open Go.ChangeShapes Go.WideShapes Go.ChangeAt Go.RowKit
open Bytes8 Blk8 Own8 OwnM OwnE LeA LeNum LeB LeP RefA Ob Oc Od Ga Gb Gc Gd Gf Gi Gj Gp
set_option linter.unusedVariables false
set_option linter.unusedSimpArgs false
set_option maxRecDepth 100000

def stR (p v : Value) : Sem Unit := Instr.storeAt 102 p v
theorem st_fold (p v : Value) : Instr.storeAt 102 p v = stR p v := rfl
def bldR (parts : Array (Nat × Value)) : Sem Value := Instr.build 102 parts
theorem bld_fold (parts : Array (Nat × Value)) : Instr.build 102 parts = bldR parts := rfl
theorem rcells_info (h : HD) : (Tryz.prog.info? 102).map (·.size) = some (h.cells 20).toArray.size := by rw [rheadInfo]; simp [HD.len]
theorem rcells_len (h : HD) : (Tryz.prog.info? 102).map (·.size) = some (h.cells 20).length := by rw [rheadInfo]; simp [HD.len]
theorem rzeros_size {h : HD} : Tryz.zeroCells102.size = (h.cells 20).toArray.size := by rw [show Tryz.zeroCells102.size = 90 by kernel_rfl]; simp [HD.len]
theorem store_head (w : World) (g : Nat) (old cs : Array Value) (h : w.heap[g]? = some (.cells old 102 (0, 0))) (ho : old.size = cs.size) (hi : (Tryz.prog.info? 102).map (·.size) = some cs.size) (h1 : cs.all (·.oneCell') = true) :
    (stR (.pointer (some ⟨g, 0, none⟩)) (.agg cs)).run Tryz.prog w = .ok () (w.setRow g cs) := by
  unfold stR
  simp only [Instr.storeAt, Instr.sureAddr, Sem.run_bind, Sem.run_pure, Result.andThen_ok]
  exact run_storeVar_row w g 102 102 old cs h hi ho h1
theorem rhd_built (h : HD) (st : Int) : Tryz.prog.built 102 [(2, .int .i64 st), (3, .agg (idc h 0).toArray), (4, .agg (idc h 1).toArray), (5, .agg (idc h 2).toArray), (6, .agg (idc h 3).toArray)] = some ((⟨0, 0, st, h.I, fun _ => 0, 0, 0, 0⟩ : HD).cells 20).toArray := by kernel_rfl
theorem build_head (w : World) (h : HD) (st : Int) : (bldR #[(2, .int .i64 st), (3, .agg (idc h 0).toArray), (4, .agg (idc h 1).toArray), (5, .agg (idc h 2).toArray), (6, .agg (idc h 3).toArray)]).run Tryz.prog w = .ok (.agg ((⟨0, 0, st, h.I, fun _ => 0, 0, 0, 0⟩ : HD).cells 20).toArray) w := by
  unfold bldR
  exact run_build w _ _ _ (rhd_built h st)
attribute [local irreducible] HD.cells idc wpList Code.wp
attribute [local go_sem ↓] st_fold bld_fold
end Go.Proofs.YtldkmobncmfodaaGreat.Gq
