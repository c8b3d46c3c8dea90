/-
  Sixteen digits: the program's Fixed.
-/
import Derived.Test.YtpfkhcgeblihcaaDoorKue
import Derived.Test.YtpfkhcgeblihcaaDoorRpt
import Derived.Lib.Repeat
namespace Go.Proofs.YtpfkhcgeblihcaaDoor.Kuo
open Go.ChangeShapes Go.WideShapes Go.ChangeAt Go.RowKit
open Bytes8 Blk8 Own8 Fa Kua Kub Kuc Kud Kue
set_option linter.unusedVariables false
set_option linter.unusedSimpArgs false
set_option maxRecDepth 100000

theorem extra : Builder.Extra Tryd.prog Tryd.laysRepeat_ren := {
  sizeBuilder := by kernel_rfl,
  liesBuilder := by kernel_rfl,
  t5 := Tryd.laysRepeat.t5,
  a5 := Tryd.laysRepeat.a5,
  z5 := Tryd.laysRepeat.z5,
  v5 := Tryd.laysRepeat.v5,
  infoByte := by kernel_rfl,
  cellsByte := by kernel_rfl,
  sizeByte := by kernel_rfl,
  neB5 := by decide }
theorem fRepeat : Tryd.laysRepeat_ren.f 105 = 40 := by kernel_rfl
theorem rep_eq (k : Nat) : ({ data := (Lib.repeatL ({ data := #[48] } : ByteArray).data.toList k).toArray } : ByteArray) = T (List.replicate k 48) := by
  have h := Lib.repeatL_replicate 48 1 k
  rw [Nat.mul_one] at h
  have e : ({ data := #[48] } : ByteArray).data.toList = List.replicate 1 (48 : UInt8) := rfl
  rw [e, h]
  show _ = strOfNums _
  unfold strOfNums
  rw [List.map_replicate]
  rfl
theorem repeat_any (k : Nat) (hk : k ≤ 16) (w : World) : Calls Tryd.prog 40 #[.string { data := #[48] }, .int .i64 (k : Int)] w fun e w' => e = .returned (.string (T (List.replicate k 48))) ∧ Below w.heap.size w w' := by
  have h := Any.strings_Repeat Tryd.laysRepeat extra { data := #[48] } k w (by omega) (by show 1 * k ≤ _; omega)
  rw [fRepeat] at h
  refine h.mono fun e w' ⟨he, hw⟩ => ⟨?_, hw⟩
  rw [he, rep_eq]
attribute [local go_sem ↓] cat_fold
set_option maxHeartbeats 2000000 in
theorem fixed_any (z : Int) (hz : U64 z) (w : World) (hT : Tab w) : Calls Tryd.prog 22 #[.int .u64 z] w fun e w' => e = .returned (.string (T (fixL z.toNat))) ∧ Below w.heap.size w w' := by
  have HS := Lib.hid (short_int z hz w hT)
  have hl := short_le (v := z.toNat) (by have := hz.2; omega)
  obtain ⟨k, hk⟩ : ∃ k : Nat, 16 - (shortL z.toNat).length = k := ⟨_, rfl⟩
  have HP := Lib.hid (show fixL z.toNat = List.replicate k 48 ++ shortL z.toNat from by rw [← hk]; exact fix_pad (by have := hz.2; omega))
  have HR := Lib.hid fun W => repeat_any k (by omega) W
  have hsz : (T (shortL z.toNat)).size = (shortL z.toNat).length := T_size _
  have hcat := fun W => cat_run (List.replicate k 48) (shortL z.toNat) (by simp; omega) W
  rw [← HP.out] at hcat
  have hn : (16 : Int) - ((shortL z.toNat).length : Int) = (k : Int) := by omega
  have hw : IntKind.i64.wrap (16 - ((shortL z.toNat).length : Int)) = (k : Int) := by rw [hn, IntKind.wrap_i64]; omega
  clear HP hT
  generalize shortL z.toNat = s at *
  generalize fixL z.toNat = r at *
  generalize List.replicate k 48 = p at *
  clear hn hk
  go_enter Tryd.func22, Tryd.ntmps22
  go_wp2_with (first
    | (go_at_call 30; (with_reducible refine HS.out.mono ?_); rintro e w1 ⟨rfl, hb1⟩; have B1 := Lib.hid hb1; clear hb1)
    | (go_at_call 40; (with_reducible refine (HR.out _).mono ?_); rintro e w2 ⟨rfl, hb2⟩; have B2 := Lib.hid (B1.out.trans (hb2.mono B1.out.size)); clear hb2))
  go_ret
  exact ⟨rfl, B2.out⟩
end Go.Proofs.YtpfkhcgeblihcaaDoor.Kuo
