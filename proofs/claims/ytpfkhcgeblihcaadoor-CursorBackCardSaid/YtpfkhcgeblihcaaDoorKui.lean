/-
  Digits read: the program's way.
-/
import Derived.Test.YtpfkhcgeblihcaaDoorKud
import Derived.Lib.Bytealg
import Derived.Laws.Externs
import Derived.Deep.CutRange
namespace Go.Proofs.YtpfkhcgeblihcaaDoor.Kui
open Go.ChangeShapes Go.WideShapes Go.ChangeAt Go.RowKit
open Bytes8 Blk8 Own8 Fa Kua Kub Kuc Kud
set_option linter.unusedVariables false
set_option linter.unusedSimpArgs false
set_option maxRecDepth 100000

/-! ## plain -/
def idxI : List Int → Int → Int
  | [], _ => -1
  | x :: l, c => if x = c then 0 else if idxI l c = -1 then -1 else idxI l c + 1
theorem idx_bytes : ∀ (l : List Int) (c : Int), AllB l → 0 ≤ c ∧ c < 256 → Lib.indexByte (l.map fun n => n.toNat.toUInt8) c.toNat.toUInt8 = idxI l c
  | [], _, _, _ => rfl
  | x :: l, c, hl, hc => by
    have hx := hl x (by simp)
    have ih := idx_bytes l c (fun n h => hl n (by simp [h])) hc
    simp only [List.map_cons, Lib.indexByte, idxI, ih]
    have he : (x.toNat.toUInt8 == c.toNat.toUInt8) = decide (x = c) := by
      by_cases h : x = c
      · simp [h]
      · have : x.toNat.toUInt8 ≠ c.toNat.toUInt8 := fun e => h (by
          have := congrArg UInt8.toNat e
          simp at this
          omega)
        simp [h, this]
    rw [he]
    by_cases h : x = c
    · simp [h]
    · simp [h]
def hexS : List Int := [48, 49, 50, 51, 52, 53, 54, 55, 56, 57, 97, 98, 99, 100, 101, 102]
theorem idx_hex {c : Int} (h0 : 0 ≤ c) (h1 : c < 256) : (nib c = none ∧ idxI hexS c = -1) ∨ ∃ d : Nat, nib c = some d ∧ d < 16 ∧ idxI hexS c = (d : Int) := by
  have all : ∀ n : Fin 256, (nib (n.val : Int) = none ∧ idxI hexS (n.val : Int) = -1) ∨ ∃ d : Fin 16, nib (n.val : Int) = some d.val ∧ idxI hexS (n.val : Int) = (d.val : Int) := by decide +kernel
  have := all ⟨c.toNat, by omega⟩
  rw [show (((⟨c.toNat, by omega⟩ : Fin 256).val : Nat) : Int) = c by simp; omega] at this
  rcases this with h | ⟨d, h2, h3⟩
  · exact .inl h
  · exact .inr ⟨d.val, h2, d.isLt, h3⟩
theorem upP_cons (x : Int) (l : List Int) : upP (x :: l) = if x = 59 then [] else x :: upP l := by
  unfold upP
  rw [List.takeWhile_cons]
  by_cases h : x = 59 <;> simp [h]
theorem fromP_cons (x : Int) (l : List Int) : fromP (x :: l) = if x = 59 then x :: l else fromP l := by
  unfold fromP
  rw [List.dropWhile_cons]
  by_cases h : x = 59 <;> simp [h]
theorem up_from (l : List Int) : upP l ++ fromP l = l := List.takeWhile_append_dropWhile
theorem idx_semi : ∀ l : List Int, (idxI l 59 = -1 ∧ upP l = l ∧ fromP l = []) ∨ (idxI l 59 = ((upP l).length : Int) ∧ (upP l).length < l.length)
  | [] => .inl ⟨rfl, rfl, rfl⟩
  | x :: l => by
    rw [upP_cons, fromP_cons]
    by_cases h : x = 59
    · right
      rw [if_pos h, idxI, if_pos h]
      simp
    · rw [if_neg h, if_neg h, idxI, if_neg h]
      rcases idx_semi l with ⟨h1, h2, h3⟩ | ⟨h1, h2⟩
      · left
        rw [if_pos h1, h2, h3]
        exact ⟨rfl, rfl, rfl⟩
      · right
        rw [if_neg (by omega), h1]
        simp only [List.length_cons]
        omega
theorem cut_parts (l : List Int) : l.take (upP l).length = upP l ∧ l.drop (upP l).length = fromP l := by
  have h := up_from l
  constructor
  · calc l.take (upP l).length = (upP l ++ fromP l).take (upP l).length := by rw [h]
      _ = upP l := List.take_left
  · calc l.drop (upP l).length = (upP l ++ fromP l).drop (upP l).length := by rw [h]
      _ = fromP l := List.drop_left

/-! ## the library's -/
theorem ibyte_any (l : List Int) (c : Int) (hl : AllB l) (hc : 0 ≤ c ∧ c < 256) (w : World) : Calls Tryd.prog 57 #[.string (T l), .int .u8 c] w fun e w' => e = .returned (.int .i64 (idxI l c)) ∧ w = w' := by
  have hr : (callFunc 71 #[.string (T l), .int .u8 c]).run Tryd.prog w = .ok (.value (.int .i64 (idxI l c))) w := by
    rw [run_callFunc_extern Tryd.func71 (by kernel_rfl) (by kernel_rfl) (by kernel_rfl) (e := Extern.BytealgIndexByte.indexByte) (by kernel_rfl), Lib.run_indexByteString, ← ByteArray.toList_eq, T_toList, idx_bytes l c hl hc]
    rfl
  generalize idxI l c = r at *
  generalize T l = S at *
  go_enter Tryd.func57, Tryd.ntmps57
  go_wp2
  go_ret
  exact ⟨rfl, rfl⟩
theorem index_any (l : List Int) (c : Int) (hl : AllB l) (hc : 0 ≤ c ∧ c < 256) (w : World) : Calls Tryd.prog 43 #[.string (T l), .int .u8 c] w fun e w' => e = .returned (.int .i64 (idxI l c)) ∧ w = w' := by
  have HI := Lib.hid fun W => ibyte_any l c hl hc W
  generalize idxI l c = r at *
  generalize T l = S at *
  go_enter Tryd.func43, Tryd.ntmps43
  go_wp2_with (go_at_call 57; (with_reducible refine (HI.out _).mono ?_); rintro e w' ⟨rfl, rfl⟩)
  go_ret
  exact ⟨rfl, rfl⟩

/-! ## a number -/
theorem d16_T : ({ data := #[48, 49, 50, 51, 52, 53, 54, 55, 56, 57, 97, 98, 99, 100, 101, 102] } : ByteArray) = T hexS := by decide
theorem u64_small {z : Int} (h0 : 0 ≤ z) (h1 : z < 18446744073709551616) : IntKind.u64.wrap z = z := by
  simp only [IntKind.wrap, IntKind.signed, IntKind.bits]
  simp
  omega
theorem val_take {s : List Int} {k : Nat} (h : k < s.length) : valF (s.take (k + 1)) 0 = (valF (s.take k) 0).bind fun u => (nib (s.getD k 0)).map fun d => u * 16 + d := by
  rw [show s.take (k + 1) = s.take k ++ [s.getD k 0] by rw [List.take_add_one, List.getElem?_eq_getElem h]; simp [List.getElem?_eq_getElem h], valF_snoc]
def valR (s : List Int) : Nat := (valF s 0).getD 0
def valB (s : List Int) : Bool := (valF s 0).isSome
set_option maxHeartbeats 4000000 in
theorem value_any (s : List Int) (hA : AllB s) (hl : s.length ≤ 16) (w : World) : Calls Tryd.prog 28 #[.string (T s)] w fun e w' => e = .returned (.tuple #[.int .u64 (valR s : Nat), .bool (valB s)]) ∧ w = w' := by
  have HI := Lib.hid fun (c : Int) (hc : 0 ≤ c ∧ c < 256) (W : World) => (show Calls Tryd.prog 43 #[.string { data := #[48, 49, 50, 51, 52, 53, 54, 55, 56, 57, 97, 98, 99, 100, 101, 102] }, .int .u8 c] W fun e w' => e = .returned (.int .i64 (idxI hexS c)) ∧ W = w' from by rw [d16_T]; exact index_any hexS c (by unfold hexS; intro x hx; simp at hx; omega) hc W)
  have HX := Lib.hid (index_at s hA)
  have HC := Lib.hid fun j => hA.at_ j
  have hsz := T_size s
  have HT := Lib.hid fun k (h : k < s.length) => val_take h
  have HNo := Lib.hid fun k (h : k < s.length) (hn : nib (s.getD k 0) = none) => (show valF s 0 = none from (valF_none s 0).2 ⟨s.getD k 0, by rw [List.getD_eq_getElem?_getD, List.getElem?_eq_getElem h]; exact List.getElem_mem h, hn⟩)
  have HAll : Hid (∀ k, s.length ≤ k → valF (s.take k) 0 = valF s 0) := Lib.hid fun k h => by rw [List.take_of_length_le h]
  obtain ⟨n, hn⟩ : ∃ n, s.length = n := ⟨_, rfl⟩
  have HL := Lib.hid hn
  rw [hn] at hl hsz
  clear hA hn
  generalize T s = S at *
  go_enter Tryd.func28, Tryd.ntmps28
  go_wp2
  go_loop [4, 5, 6, 9] (fun v _ _ i => ∃ k u : Nat, v = .int .u64 (u : Int) ∧ i = .int .i64 (k : Int) ∧ k ≤ n ∧ Hid (valF (s.take k) 0 = some u) ∧ Hid (u < 16 ^ k)) (fun _ _ _ i => n - (intOf i).toNat)
  case atStart => exact ⟨0, 0, rfl, rfl, Nat.zero_le _, Lib.hid rfl, Lib.hid (by decide)⟩
  case round =>
    obtain ⟨k, u, rfl, rfl, hk, hv, hu⟩ := hrel
    by_cases hlt : k < n
    · have hki : (k : Int) < (n : Int) := by omega
      have hkl : k < s.length := by have := HL.out; omega
      have hidx := HX.out k hkl
      have hcb := HC.out k
      have HTk := Lib.hid (HT.out k hkl)
      have HNk := Lib.hid (HNo.out k hkl)
      generalize s.getD k 0 = c at *
      have HIc := Lib.hid (HI.out c hcb)
      have hpow : u < 1152921504606846976 := Nat.lt_of_lt_of_le hu.out (Nat.le_trans (Nat.pow_le_pow_right (by decide) (show k ≤ 15 by omega)) (by decide))
      rcases idx_hex hcb.1 hcb.2 with ⟨h1, h2⟩ | ⟨d, h1, hd, h2⟩
      · rw [h2] at HIc
        have HE := Lib.hid (HNk.out h1)
        clear HNk HTk HI h1 h2
        go_wp2_with (go_at_call 43; (with_reducible refine (HIc.out _).mono ?_); rintro e w' ⟨rfl, rfl⟩)
        go_ret2
        exact ⟨by unfold valR valB; rw [HE.out]; rfl, rfl⟩
      · rw [h2] at HIc
        have HE := Lib.hid (show valF (s.take (k + 1)) 0 = some (u * 16 + d) by rw [HTk.out, hv.out, h1]; rfl)
        have HU := Lib.hid (show u * 16 + d < 16 ^ (k + 1) by have := hu.out; rw [Nat.pow_succ]; omega)
        have w1 : IntKind.u64.wrap ((u : Int) * 16) = (u : Int) * 16 := u64_small (by omega) (by omega)
        have w2 : IntKind.u64.wrap (d : Int) = (d : Int) := u64_small (by omega) (by omega)
        have w3 : IntKind.u64.wrap ((u : Int) * 16 + (d : Int)) = (u : Int) * 16 + (d : Int) := u64_small (by omega) (by omega)
        have hd0 : ¬ (d : Int) < 0 := by omega
        clear HNk HTk HI h1 h2
        go_wp2_with (go_at_call 43; (with_reducible refine (HIc.out _).mono ?_); rintro e w' ⟨rfl, rfl⟩)
        go_round
        case rel => exact ⟨k + 1, u * 16 + d, by go_num, by go_num, by omega, HE, HU⟩
        case measure => simp [intOf]; omega
    · have hki : ¬ (k : Int) < (n : Int) := by omega
      have HE := Lib.hid (show valF s 0 = some u by rw [← HAll.out k (by have := HL.out; omega)]; exact hv.out)
      go_wp2
      go_ret2
      exact ⟨by unfold valR valB; rw [HE.out]; rfl, rfl⟩
end Go.Proofs.YtpfkhcgeblihcaaDoor.Kui
