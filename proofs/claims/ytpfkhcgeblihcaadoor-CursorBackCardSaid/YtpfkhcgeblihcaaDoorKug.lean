/-
  The chapter's example; small words for the laws of cursors.
-/
import Derived.Test.YtpfkhcgeblihcaaDoorKuf
namespace Go.Proofs.YtpfkhcgeblihcaaDoor.Kug
open Go.ChangeShapes Go.WideShapes Go.ChangeAt Go.RowKit
open Bytes8 Blk8 Own8 Fa Fo Kua Kub Kuc Kud Kue Kuf
set_option linter.unusedVariables false
set_option linter.unusedSimpArgs false
set_option maxRecDepth 100000

def z0 : Cur := ⟨fun _ => 0, 0, fun _ => 0, 0, 0, 0⟩
theorem id0 : IdOk (fun _ => 0) := fun _ => ⟨Int.le_refl 0, by show (0 : Int) < 256; decide⟩
theorem u0 : U64 0 := ⟨Int.le_refl 0, by decide⟩
theorem z0_ok : z0.Ok := ⟨id0, u0, id0, u0, u0, u0⟩
theorem z0_hex : hexL (fun _ => 0) = List.replicate 32 48 := by kernel_rfl
theorem z0_show : showL z0 = [115, 61] ++ List.replicate 32 48 ++ [59, 105, 61, 48] ++ [59, 98, 61] ++ List.replicate 32 48 ++ [59, 109, 61, 48] ++ [59, 116, 61, 48] ++ [59, 120, 61, 48] := by
  unfold showL
  show [115, 61] ++ hexL (fun _ => 0) ++ ([59, 105, 61] ++ shortL 0) ++ ([59, 98, 61] ++ hexL (fun _ => 0)) ++ ([59, 109, 61] ++ shortL 0) ++ ([59, 116, 61] ++ shortL 0) ++ ([59, 120, 61] ++ shortL 0) = _
  rw [z0_hex, short_zero]
  rfl
theorem first_any (w : World) (hT : Tab w) : Calls Tryd.prog 6 #[] w fun e w' => e = .returned (.bool true) ∧ Below w.heap.size w w' := by
  have HS := Lib.hid (show Calls Tryd.prog 14 #[.agg #[.int .u8 0, .int .u8 0, .int .u8 0, .int .u8 0, .int .u8 0, .int .u8 0, .int .u8 0, .int .u8 0, .int .u8 0, .int .u8 0, .int .u8 0, .int .u8 0, .int .u8 0, .int .u8 0, .int .u8 0, .int .u8 0, .int .u64 0, .int .u8 0, .int .u8 0, .int .u8 0, .int .u8 0, .int .u8 0, .int .u8 0, .int .u8 0, .int .u8 0, .int .u8 0, .int .u8 0, .int .u8 0, .int .u8 0, .int .u8 0, .int .u8 0, .int .u8 0, .int .u8 0, .int .u64 0, .int .u64 0, .int .u64 0]] w fun e w' => e = .returned (.string (T (showL z0))) ∧ Below w.heap.size w w' from show_any z0 z0_ok w hT)
  have HX := Lib.hid fun W => (show Calls Tryd.prog 20 #[.agg #[.int .u8 0, .int .u8 0, .int .u8 0, .int .u8 0, .int .u8 0, .int .u8 0, .int .u8 0, .int .u8 0, .int .u8 0, .int .u8 0, .int .u8 0, .int .u8 0, .int .u8 0, .int .u8 0, .int .u8 0, .int .u8 0]] W fun e w' => e = .returned (.string (T (hexL fun _ => 0))) ∧ Below W.heap.size W w' from hex_any (fun _ => 0) id0 W)
  rw [z0_show] at HS
  rw [z0_hex] at HX
  clear hT
  go_enter Tryd.func6, Tryd.ntmps6
  go_wp2_with (first
    | (go_at_call 14; (with_reducible refine HS.out.mono ?_); rintro e w' ⟨rfl, hb⟩; have HB := Lib.hid hb; clear hb)
    | (go_at_call 20; (with_reducible refine (HX.out _).mono ?_); rintro e w' ⟨rfl, hb⟩; have HB2 := Lib.hid hb; clear hb))
  go_ret
  exact ⟨ret_bool (by kernel_rfl), HB.out.trans (HB2.out.mono HB.out.size)⟩
end Go.Proofs.YtpfkhcgeblihcaaDoor.Kug
