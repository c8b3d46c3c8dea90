/-
  Bytes that are too few for a head; the chapter's example.
-/
import Derived.Test.YtekmbgcijkdkfaaGf
namespace Go.Proofs.Ytekmbgcijkdkfaa.Gi
open Go.ChangeShapes Go.WideShapes Go.ChangeAt Go.RowKit
open Bytes8 Blk8 Own8 OwnM LeA LeNum LeP Ob Oc Od Ga Gb Gc Gd Gf
set_option linter.unusedVariables false
set_option linter.unusedSimpArgs false
set_option maxRecDepth 100000

def hd0 : HD := ⟨0, 0, 0, fun _ => 0, fun _ => 0, 0, 0, 0⟩
theorem hd0_ok (m : Nat) : hd0.Ok m := ⟨by decide, by decide, by decide, fun _ => ⟨Int.le_refl _, by show (0 : Int) < 256; decide⟩, fun _ => ⟨Int.le_refl _, by show (0 : Int) ≤ 18446744073709551615; decide⟩, by decide, by decide, by decide⟩
theorem zero_head : Try.zeroCells40 = (hd0.cells 21).toArray := by kernel_rfl
theorem wpList_build_zero {P : Program} {ops : Array Oper} {rest : List Oper} {o : Oper} {a : Act} {w : World} {Q : Exit → Act → World → Prop} (hw : Region.wanted o (yielded ops a.tmps) = true) (t : TypeId) (ho : o.op = .build t #[]) (cells : Array Value)
    (hb : P.built t [] = some cells) (h : wpList P ops Q rest (a.put o.dst (.agg cells)) w) : wpList P ops Q (o :: rest) a w :=
  BigFrame.wpList_want hw fun K hK => wp_build t #[] ho (by simp only [List.map_toArray, List.map_nil]; rw [hb]; rfl) (by simp only [List.map_toArray, List.map_nil]; rw [hb]; exact hK _ _ h)
theorem zero_built : Try.prog.built 40 [] = some (hd0.cells 21).toArray := by kernel_rfl
theorem res_rowG {P : Program} {fn : Func} {p u : Tmp} {ty : TypeId} (h : fn.results = #[.cell p ty, .tmp u]) (tmps : Array Value) (w : World) (g : Nat) (t : TypeId) (cs : Array Value) (fr : Nat × Nat) (d : TypeDesc) (c : Value)
    (hp : tmps.getD p undef = .pointer (some ⟨g, 0, none⟩)) (hc : tmps.getD u undef = c) (hg : w.heap[g]? = some (.cells cs t fr)) (hu : P.underlying ty = some d) (hd : (match d with | .struct _ | .array _ _ => true | _ => false) = true) (hi : (P.info? ty).map (·.size) = some cs.size) :
    (results fn tmps).run P w = .ok (.tuple #[.agg cs, c]) w := by
  rw [results_cell_tmp h, hp, hc]
  simp [asAddr, run_loadVar_row w g t ty cs fr d hg hu hd hi, Result.andThen]
attribute [local irreducible] HD.cells wpList Code.wp
set_option maxHeartbeats 1000000 in
theorem read_short (A : Option Addr) (n c : Nat) (w : World) (hn : n < 272) :
    Calls Try.prog 13 #[.slice A n c] w fun e w' => e = .returned (.tuple #[.agg (hd0.cells 21).toArray, .int .i64 22]) ∧ Below w.heap.size w w' := by
  have d1 : (n : Int) < 272 := by omega
  go_enter Try.func13, Try.ntmps13
  go_upto_region 1 with fail
  have b1 := Lib.hid ((Below.refl w.heap.size w).alloc (Nat.le_refl _) (.cells Try.zeroCells40 40))
  have Z1 := Lib.hid (heap_alloc_new w (.cells Try.zeroCells40 40))
  generalize w.alloc (.cells Try.zeroCells40 40) = w1 at *
  go_wp2_with (first
    | ((with_reducible apply at_slot 9); refine wpList_build_zero rfl 40 rfl _ zero_built ?_)
    | ((with_reducible apply at_store (.tmp 2) (.tmp 9)); refine wpList_store_row rfl 40 (.tmp 2) (.tmp 9) rfl w.heap.size (hd0.cells 21).toArray rfl rfl 40 Try.zeroCells40 Z1.out (cells_info _) zeros_size (HD.one _ 21) ?_))
  refine bodyPost_ret (v := .tuple #[.agg (hd0.cells 21).toArray, .int .i64 22]) (by exact res_rowG Try.results13 _ _ w.heap.size 40 _ (0, 0) _ _ rfl rfl (setRow_heap _ _ _ _ _ (0, 0) Z1.out) Try.underlying40 rfl (cells_info _)) rfl ?_
  exact ⟨rfl, below_setRow b1.out (Nat.le_refl _) _⟩
set_option maxHeartbeats 1000000 in
theorem first_any (w : World) : Calls Try.prog 12 #[] w fun e w' => e = .returned (.bool true) ∧ Below w.heap.size w w' := by
  have HR := Lib.hid fun (W : World) => read_short none 0 0 W (by decide)
  have HP := Lib.hid fun (W : World) => hput_any hd0 (hd0_ok 21) W
  unfold Owned at HP
  go_enter Try.func12, Try.ntmps12
  go_wp2_with (first
    | (go_at_call 13; ((with_reducible refine (HR.out _).mono ?_); rintro e w1 ⟨rfl, hb1⟩; have B1 := Lib.hid hb1; clear hb1))
    | ((with_reducible apply at_store (.tmp 1) (.tmp 5)); refine wpList_store_row rfl 40 (.tmp 1) (.tmp 5) rfl w1.heap.size (hd0.cells 21).toArray rfl rfl 40 Try.zeroCells40 (heap_alloc_new w1 _) (cells_info _) zeros_size (HD.one _ 21) ?_; have B2 := Lib.hid (show Below w.heap.size w ((w1.alloc (.cells Try.zeroCells40 40)).setRow w1.heap.size (hd0.cells 21).toArray) from below_setRow (B1.out.alloc B1.out.size _) B1.out.size _))
    | ((with_reducible apply at_slot 10); refine wpList_build_zero rfl 40 rfl _ zero_built ?_)
    | (go_at_call 19; ((with_reducible refine (HP.out _).mono ?_); rintro e w3 ⟨A3, c3, rfl, ho3, hb3⟩; have B3 := Lib.hid (B2.out.trans (hb3.mono B2.out.size)); clear ho3 hb3)))
  go_ret
  exact ⟨rfl, B3.out⟩
end Go.Proofs.Ytekmbgcijkdkfaa.Gi
