/-
  The chapter's examples come out true, and nothing that was there is written.
-/
import Derived.Test.YtfofjnnjlnggjaaLeB
namespace Go.Proofs.Ytfofjnnjlnggjaa.LeC
open Go.ChangeShapes Go.WideShapes Go.ChangeAt Go.RowKit
open Bytes8 LeA LeNum LeB

abbrev three (w : World) : World := w.alloc (.cells #[.int .u8 1, .int .u8 2, .int .u8 3] 5)

theorem three_bytes (w : World) : Bytes (three w) (some ⟨w.heap.size, 0, none⟩) [1, 2, 3] :=
  (Row.new w [1, 2, 3]).bytes (by unfold AllB; decide)

theorem get_three (w : World) :
    Calls Try.prog 8 #[.slice (some ⟨w.heap.size, 0, none⟩) 3 3, .int .i64 1, .int .i64 2] (three w) fun e w' => e = .returned (.tuple #[.int .u64 770, .bool true]) ∧ three w = w' :=
  get_yes (some ⟨w.heap.size, 0, none⟩) [1, 2, 3] 3 1 2 (three w) (by decide) (by decide) (three_bytes w) (by decide) (by decide) (by decide)

theorem first_any (w : World) :
    Calls Try.prog 7 #[] w fun e w' => e = .returned (.bool true) ∧ Below w.heap.size w w' := by
  go_enter Try.func7, Try.ntmps7
  go_wp2_with (first | (go_at_call 8; refine (get_three _).mono ?_; rintro e w' ⟨rfl, rfl⟩) | (go_at_call 12; refine (align_yes _ _ (by decide) (by decide)).mono ?_; rintro e w' ⟨rfl, rfl⟩))
  go_ret
  exact ⟨rfl, (Below.refl _ _).alloc (Nat.le_refl _) _⟩
end Go.Proofs.Ytfofjnnjlnggjaa.LeC
