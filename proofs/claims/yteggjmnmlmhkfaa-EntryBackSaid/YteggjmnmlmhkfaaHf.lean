/-
  What the document's own Lookup answers.
-/
import Derived.Test.YteggjmnmlmhkfaaHe
namespace Go.Proofs.Yteggjmnmlmhkfaa.Hf
open Go.ChangeShapes Go.WideShapes Go.ChangeAt Go.RowKit
open Bytes8 Blk8 LeNum Hm Ha Hb He
set_option linter.unusedVariables false
set_option maxRecDepth 100000

set_option maxRecDepth 100000 in
theorem rlook_nil (A : Option Addr) (cap : Nat) (w : World) :
    Calls Try.prog 28 #[.slice A 0 cap] w fun e w' => e = .returned (.int .u64 (lookS [])) ∧ w = w' := by
  go_enter Try.func28, Try.ntmps28
  go_wp2
  go_ret
  exact ⟨ret_int (by decide +kernel), rfl⟩

theorem wn (l : List Int) (A : Option Addr) (len cap o : Nat) (i : Int) (hi : i = o) (w : World) (h : Hid (Bytes w A l ∧ l.length = len)) (hmax : len ≤ 1000000) (ho : o ≤ 1000000) :
    Calls Try.prog 41 #[.slice A len cap, .int .i64 i] w fun e w' => e = .returned (.int .u32 (w4 l o)) ∧ w = w' := word_at A l len cap o i hi w h.out.1 h.out.2 hmax ho

set_option maxRecDepth 100000 in
set_option maxHeartbeats 4000000 in
theorem rlook_any (A : Option Addr) (l : List Int) (len cap : Nat) (w : World) (hb : Bytes w A l) (hL : l.length = len) (hpos : 0 < len) (hmax : len ≤ 900000) :
    Calls Try.prog 28 #[.slice A len cap] w fun e w' => e = .returned (.int .u64 (lookS l)) ∧ w = w' := by
  have HA := Lib.hid hb.1
  have HS := Lib.hid (show lookInit l = ⟨3735928559 + (len : Int), 3735928559 + (len : Int), 3735928559 + (len : Int)⟩ by
    have e : add32 3735928559 (l.length : Int) = 3735928559 + (len : Int) := by unfold add32; omega
    unfold lookInit; rw [e])
  have HB := Lib.hid (And.intro hb hL)
  have hne : ((len : Int) == 0) = false := by simp; omega
  clear hb hL
  go_enter Try.func28, Try.ntmps28
  go_wp2
  go_loop [3, 4, 5, 6] (fun x y z i => ∃ k o : Nat, Hid (o = 12 * k) ∧ o < len ∧ i = .int .i64 o ∧ x = .int .u32 (trioAt l k).x ∧ y = .int .u32 (trioAt l k).y ∧ z = .int .u32 (trioAt l k).z) (fun _ _ _ i => len - (intOf i).toNat)
  case atStart => exact ⟨0, 0, Lib.hid rfl, hpos, rfl, by show _ = Value.int .u32 (lookInit l).x; rw [HS.out], by show _ = Value.int .u32 (lookInit l).y; rw [HS.out], by show _ = Value.int .u32 (lookInit l).z; rw [HS.out]⟩
  case round =>
    obtain ⟨k, o, ho, hlt, rfl, rfl, rfl, rfl⟩ := hrel
    have HT := Lib.hid (trioAt_ok l k)
    have H0 := Lib.hid (wn l A len cap o o rfl w HB (by omega) (by omega))
    have H4 := Lib.hid (wn l A len cap (o + 4) ((o : Int) + 4) (by omega) w HB (by omega) (by omega))
    have H8 := Lib.hid (wn l A len cap (o + 8) ((o : Int) + 8) (by omega) w HB (by omega) (by omega))
    have HN := Lib.hid (show trioAt l (k + 1) = mix (plus3 (trioAt l k) l o) by rw [ho.out]; rfl)
    have HF := Lib.hid (show ¬ 12 < len - o → lookS l = ans (fin (plus3 (trioAt l k) l o)) from fun h12 => by
      have HE : (l.length - 1) / 12 = k := by rw [HB.out.2]; have := ho.out; omega
      unfold lookS
      rw [if_neg (by intro h; have := HB.out.2; rw [h] at this; simp at this; omega), HE, ho.out])
    generalize trioAt l k = T at *
    obtain ⟨x, y, z⟩ := T
    obtain ⟨⟨x0, x1⟩, ⟨y0, y1⟩, ⟨z0, z1⟩⟩ := HT.out
    simp only at x0 x1 y0 y1 z0 z1
    obtain ⟨a0, a1⟩ := w4_bd l o HA.out
    obtain ⟨b0, b1⟩ := w4_bd l (o + 4) HA.out
    obtain ⟨c0, c1⟩ := w4_bd l (o + 8) HA.out
    by_cases h12 : 12 < len - o
    · have hd : decide ((12 : Int) < (len : Int) - (o : Int)) = true := by simp; omega
      go_wp2_with (first | (go_at_call 41; (with_reducible refine H0.out.mono ?_); rintro e w' ⟨rfl, rfl⟩) | (go_at_call 41; (with_reducible refine H4.out.mono ?_); rintro e w' ⟨rfl, rfl⟩) | (go_at_call 41; (with_reducible refine H8.out.mono ?_); rintro e w' ⟨rfl, rfl⟩) | (go_at_call 42; (with_reducible refine (turn_any _ _ _ (by first | assumption | exact (b32 _ _ _).1 | omega) (by first | assumption | exact (b32 _ _ _).2 | omega) (by decide) (by decide)).mono ?_); rintro e w' ⟨rfl, rfl⟩))
      go_round
      case rel =>
        refine ⟨k + 1, o + 12, Lib.hid (by have := ho.out; omega), by omega, by go_num, ?_, ?_, ?_⟩
        · rw [HN.out]; simp [mix, mix1, mix2, mix3, mix4, mix5, mix6, plus3, stir, add32]
        · rw [HN.out]; simp [mix, mix1, mix2, mix3, mix4, mix5, mix6, plus3, stir, add32]
        · rw [HN.out]; simp [mix, mix1, mix2, mix3, mix4, mix5, mix6, plus3, stir, add32]
      case measure => simp [intOf]; omega
    · have hd : decide ((12 : Int) < (len : Int) - (o : Int)) = false := by simp; omega
      have hS := Lib.hid (HF.out h12)
      clear HN
      go_wp2_with (first | (go_at_call 41; (with_reducible refine H0.out.mono ?_); rintro e w' ⟨rfl, rfl⟩) | (go_at_call 41; (with_reducible refine H4.out.mono ?_); rintro e w' ⟨rfl, rfl⟩) | (go_at_call 41; (with_reducible refine H8.out.mono ?_); rintro e w' ⟨rfl, rfl⟩) | (go_at_call 42; (with_reducible refine (turn_any _ _ _ (by first | assumption | exact (b32 _ _ _).1 | omega) (by first | assumption | exact (b32 _ _ _).2 | omega) (by decide) (by decide)).mono ?_); rintro e w' ⟨rfl, rfl⟩))
      go_ret
      refine ⟨ret_int ?_, rfl⟩
      rw [hS.out]
      simp [ans, fin, plus3, setl, add32]
end Go.Proofs.Yteggjmnmlmhkfaa.Hf
