/-
  What mixing and finishing three numbers answers.
-/
import Derived.Test.YteggjmnmlmhkfaaHa
import Derived.BigQuiet
import Derived.Deep.QuietTactic
namespace Go.Proofs.Yteggjmnmlmhkfaa.Hb
open Go.ChangeShapes Go.WideShapes Go.ChangeAt Go.RowKit
open Bytes8 Blk8 LeNum Hm Ha
set_option linter.unusedVariables false
set_option maxRecDepth 100000

set_option maxHeartbeats 1000000 in
theorem mixed_any (x y z : Int) (w : World) (h : (⟨x, y, z⟩ : Trio).ok) :
    Calls Try.prog 54 #[.agg #[.int .u32 x, .int .u32 y, .int .u32 z]] w fun e w' => e = .returned (trioV (mix ⟨x, y, z⟩)) ∧ Below w.heap.size w w' := by
  obtain ⟨⟨x0, x1⟩, ⟨y0, y1⟩, ⟨z0, z1⟩⟩ := h
  simp only at x0 x1 y0 y1 z0 z1
  go_enter Try.func54, Try.ntmps54
  go_wp2
  go_quiet (fail)
  go_wp2_with (go_at_call 60; (with_reducible refine (stirred_any _ _ _ _ (by first | assumption | exact (stir_bd _ _ _).1 | omega) (by first | assumption | exact (stir_bd _ _ _).2 | omega) (by decide) (by decide)).mono ?_); rintro e w' ⟨rfl, rfl⟩)
  refine bodyPost_ret (v := trioV (mix ⟨x, y, z⟩)) (by simp [results, Try.results54, go_sem, trioV, mix, mix1, mix2, mix3, mix4, mix5, mix6, add32]) rfl ⟨rfl, ?_⟩
  repeat (first | exact Below.refl _ _ | refine Below.setCell ?_ (by simp) _ | refine Below.alloc ?_ (by simp) _ | refine below_drewN ?_ _)

set_option maxHeartbeats 1000000 in
theorem finished_any (x y z : Int) (w : World) (h : (⟨x, y, z⟩ : Trio).ok) :
    Calls Try.prog 55 #[.agg #[.int .u32 x, .int .u32 y, .int .u32 z]] w fun e w' => e = .returned (trioV (fin ⟨x, y, z⟩)) ∧ Below w.heap.size w w' := by
  obtain ⟨⟨x0, x1⟩, ⟨y0, y1⟩, ⟨z0, z1⟩⟩ := h
  simp only at x0 x1 y0 y1 z0 z1
  go_enter Try.func55, Try.ntmps55
  go_wp2
  go_quiet (fail)
  go_wp2_with (go_at_call 61; (with_reducible refine (settled_any _ _ _ _ (by first | assumption | exact (setl_bd _ _ _).1 | omega) (by first | assumption | exact (setl_bd _ _ _).2 | omega) (by decide) (by decide)).mono ?_); rintro e w' ⟨rfl, rfl⟩)
  refine bodyPost_ret (v := trioV (fin ⟨x, y, z⟩)) (by simp [results, Try.results55, go_sem, trioV, fin]) rfl ⟨rfl, ?_⟩
  repeat (first | exact Below.refl _ _ | refine Below.setCell ?_ (by simp) _ | refine Below.alloc ?_ (by simp) _ | refine below_drewN ?_ _)
end Go.Proofs.Yteggjmnmlmhkfaa.Hb
