/-
  Where in a head its IDs and its numbers are.
-/
import Derived.Test.YtekmbgcijkdkfaaGb
import Derived.StillTailTactics
namespace Go.Proofs.Ytekmbgcijkdkfaa.Gc
open Go.ChangeShapes Go.WideShapes Go.ChangeAt Go.RowKit
open Bytes8 Blk8 Own8 OwnM LeNum Ob Oc Od Ga Gb
set_option linter.unusedVariables false
set_option linter.unusedSimpArgs false
set_option maxRecDepth 100000

abbrev idsV (g : Nat) : Value := .agg #[.pointer (some ⟨g, 3, none⟩), .pointer (some ⟨g, 19, none⟩), .pointer (some ⟨g, 35, none⟩), .pointer (some ⟨g, 51, none⟩)]
abbrev numsV (g : Nat) : Value := .agg #[.pointer (some ⟨g, 67, none⟩), .pointer (some ⟨g, 68, none⟩), .pointer (some ⟨g, 69, none⟩), .pointer (some ⟨g, 70, none⟩), .pointer (some ⟨g, 71, none⟩), .pointer (some ⟨g, 72, none⟩), .pointer (some ⟨g, 73, none⟩), .pointer (some ⟨g, 74, none⟩), .pointer (some ⟨g, 75, none⟩), .pointer (some ⟨g, 76, none⟩), .pointer (some ⟨g, 77, none⟩), .pointer (some ⟨g, 78, none⟩), .pointer (some ⟨g, 79, none⟩), .pointer (some ⟨g, 80, none⟩), .pointer (some ⟨g, 81, none⟩), .pointer (some ⟨g, 82, none⟩), .pointer (some ⟨g, 83, none⟩), .pointer (some ⟨g, 84, none⟩), .pointer (some ⟨g, 85, none⟩), .pointer (some ⟨g, 86, none⟩), .pointer (some ⟨g, 87, none⟩)]
theorem nums_one (g : Nat) : (#[.pointer (some ⟨g, 67, none⟩), .pointer (some ⟨g, 68, none⟩), .pointer (some ⟨g, 69, none⟩), .pointer (some ⟨g, 70, none⟩), .pointer (some ⟨g, 71, none⟩), .pointer (some ⟨g, 72, none⟩), .pointer (some ⟨g, 73, none⟩), .pointer (some ⟨g, 74, none⟩), .pointer (some ⟨g, 75, none⟩), .pointer (some ⟨g, 76, none⟩), .pointer (some ⟨g, 77, none⟩), .pointer (some ⟨g, 78, none⟩), .pointer (some ⟨g, 79, none⟩), .pointer (some ⟨g, 80, none⟩), .pointer (some ⟨g, 81, none⟩), .pointer (some ⟨g, 82, none⟩), .pointer (some ⟨g, 83, none⟩), .pointer (some ⟨g, 84, none⟩), .pointer (some ⟨g, 85, none⟩), .pointer (some ⟨g, 86, none⟩), .pointer (some ⟨g, 87, none⟩)] : Array Value).all (·.oneCell') = true := by simp [Value.oneCell']
theorem p4Info : (Try.prog.info? 81).map (·.size) = some 4 := by kernel_rfl
theorem p21Info : (Try.prog.info? 85).map (·.size) = some 21 := by kernel_rfl
set_option maxHeartbeats 1000000 in
theorem ids_any (g : Nat) (w : World) :
    Calls Try.prog 37 #[.pointer (some ⟨g, 0, none⟩)] w fun e w' => e = .returned (idsV g) ∧ Below w.heap.size w w' := by
  go_enter Try.func37, Try.ntmps37
  go_wp2
  go_region
  all_goals
    go_wp2
    refine bodyPost_ret (v := idsV g) (by exact results_cell_row Try.results37 _ _ w.heap.size 81 _ (0, 0) _ rfl (heap_alloc_new w _) Try.underlying81 rfl p4Info) rfl ?_
    exact ⟨rfl, ((Below.refl w.heap.size w).alloc (Nat.le_refl _) _).drew⟩
set_option maxHeartbeats 1000000 in
theorem hnums_any (g : Nat) (w : World) :
    Calls Try.prog 38 #[.pointer (some ⟨g, 0, none⟩)] w fun e w' => e = .returned (numsV g) ∧ Below w.heap.size w w' := by
  go_enter Try.func38, Try.ntmps38
  go_wp2
  have Z0 := Lib.hid (heap_alloc_new w (.cells #[.pointer none, .pointer none, .pointer none, .pointer none, .pointer none, .pointer none, .pointer none, .pointer none, .pointer none, .pointer none, .pointer none, .pointer none, .pointer none, .pointer none, .pointer none, .pointer none, .pointer none, .pointer none, .pointer none, .pointer none, .pointer none] 85))
  have B0 := Lib.hid ((Below.refl w.heap.size w).alloc (Nat.le_refl _) (.cells #[.pointer none, .pointer none, .pointer none, .pointer none, .pointer none, .pointer none, .pointer none, .pointer none, .pointer none, .pointer none, .pointer none, .pointer none, .pointer none, .pointer none, .pointer none, .pointer none, .pointer none, .pointer none, .pointer none, .pointer none, .pointer none] 85))
  generalize w.alloc (.cells #[.pointer none, .pointer none, .pointer none, .pointer none, .pointer none, .pointer none, .pointer none, .pointer none, .pointer none, .pointer none, .pointer none, .pointer none, .pointer none, .pointer none, .pointer none, .pointer none, .pointer none, .pointer none, .pointer none, .pointer none, .pointer none] 85) = w1 at *
  refine wp_region_still_tail 63 (by kernel_rfl) (by kernel_rfl) ?_
  simp only [List.append_eq, List.cons_append, List.nil_append, List.take_succ_cons, List.take_zero, List.drop_succ_cons, List.drop_zero]
  repeat still_step
  try refine wpStill_nil ?_
  change wpList _ _ _ _ _ w1.drew
  go_wp2_with (first
    | ((with_reducible apply at_slot 66); refine wpList_build_as rfl 85 _ rfl #[.pointer (some ⟨g, 67, none⟩), .pointer (some ⟨g, 68, none⟩), .pointer (some ⟨g, 69, none⟩), .pointer (some ⟨g, 70, none⟩), .pointer (some ⟨g, 71, none⟩), .pointer (some ⟨g, 72, none⟩), .pointer (some ⟨g, 73, none⟩), .pointer (some ⟨g, 74, none⟩), .pointer (some ⟨g, 75, none⟩), .pointer (some ⟨g, 76, none⟩), .pointer (some ⟨g, 77, none⟩), .pointer (some ⟨g, 78, none⟩), .pointer (some ⟨g, 79, none⟩), .pointer (some ⟨g, 80, none⟩), .pointer (some ⟨g, 81, none⟩), .pointer (some ⟨g, 82, none⟩), .pointer (some ⟨g, 83, none⟩), .pointer (some ⟨g, 84, none⟩), .pointer (some ⟨g, 85, none⟩), .pointer (some ⟨g, 86, none⟩), .pointer (some ⟨g, 87, none⟩)] (by kernel_rfl) ?_)
    | ((with_reducible apply at_store (.tmp 2) (.tmp 66)); refine wpList_store_row rfl 85 (.tmp 2) (.tmp 66) rfl w.heap.size #[.pointer (some ⟨g, 67, none⟩), .pointer (some ⟨g, 68, none⟩), .pointer (some ⟨g, 69, none⟩), .pointer (some ⟨g, 70, none⟩), .pointer (some ⟨g, 71, none⟩), .pointer (some ⟨g, 72, none⟩), .pointer (some ⟨g, 73, none⟩), .pointer (some ⟨g, 74, none⟩), .pointer (some ⟨g, 75, none⟩), .pointer (some ⟨g, 76, none⟩), .pointer (some ⟨g, 77, none⟩), .pointer (some ⟨g, 78, none⟩), .pointer (some ⟨g, 79, none⟩), .pointer (some ⟨g, 80, none⟩), .pointer (some ⟨g, 81, none⟩), .pointer (some ⟨g, 82, none⟩), .pointer (some ⟨g, 83, none⟩), .pointer (some ⟨g, 84, none⟩), .pointer (some ⟨g, 85, none⟩), .pointer (some ⟨g, 86, none⟩), .pointer (some ⟨g, 87, none⟩)] rfl rfl 85 #[.pointer none, .pointer none, .pointer none, .pointer none, .pointer none, .pointer none, .pointer none, .pointer none, .pointer none, .pointer none, .pointer none, .pointer none, .pointer none, .pointer none, .pointer none, .pointer none, .pointer none, .pointer none, .pointer none, .pointer none, .pointer none] Z0.out p21Info rfl (nums_one g) ?_))
  refine bodyPost_ret (v := numsV g) (by exact results_cell_row Try.results38 _ _ w.heap.size 85 _ (0, 0) _ rfl (setRow_heap _ w.heap.size _ _ _ (0, 0) Z0.out) Try.underlying85 rfl p21Info) rfl ?_
  exact ⟨rfl, below_setRow B0.out.drew (Nat.le_refl _) _⟩
end Go.Proofs.Ytekmbgcijkdkfaa.Gc
