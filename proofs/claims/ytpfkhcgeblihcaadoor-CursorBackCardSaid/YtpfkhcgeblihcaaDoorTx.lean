/-
  Texts as lists of numbers, plain.
-/
import Derived.Test.YtpfkhcgeblihcaaDoorBlk
import Derived.Laws.Concat
import Derived.Laws.StructEq
import Derived.Laws.Strings2
import Derived.Laws.Strings3
namespace Go.Proofs.YtpfkhcgeblihcaaDoor.Fa
open Go.ChangeShapes Go.WideShapes Go.ChangeAt Go.RowKit
open Bytes8 Blk8
set_option linter.unusedVariables false
set_option maxRecDepth 100000
set_option linter.unusedSimpArgs false

/-! ## texts as lists of numbers -/
abbrev T (l : List Int) : ByteArray := strOfNums l
def num (s : ByteArray) : List Int := s.toList.map fun c => (c.toNat : Int)
theorem T_toList (l : List Int) : (T l).toList = l.map fun n => n.toNat.toUInt8 := by
  show (strOfNums l).toList = _
  unfold strOfNums
  rw [ByteArray.toList_eq]
theorem num_len (s : ByteArray) : (num s).length = s.size := by
  unfold num; rw [List.length_map, ByteArray.toList_eq]; cases s; rfl
theorem num_all (s : ByteArray) : AllB (num s) := fun n hn => by
  obtain ⟨c, _, rfl⟩ := List.mem_map.1 hn
  have := c.toNat_lt
  constructor <;> omega
theorem T_size (l : List Int) : (T l).size = l.length := by
  have h := num_len (T l)
  rw [← h]; unfold num; rw [List.length_map, T_toList, List.length_map]
theorem T_num (s : ByteArray) : T (num s) = s := by
  have h : (T (num s)).toList = s.toList := by
    rw [T_toList]; unfold num; rw [List.map_map]
    conv => rhs; rw [← List.map_id s.toList]
    refine List.map_congr_left fun c _ => ?_
    simp
  rw [ByteArray.toList_eq, ByteArray.toList_eq] at h
  apply ByteArray.ext
  exact Array.toList_inj.1 h
theorem num_T {l : List Int} (h : AllB l) : num (T l) = l := by
  unfold num; rw [T_toList, List.map_map]
  conv => rhs; rw [← List.map_id l]
  refine List.map_congr_left fun n hn => ?_
  have := h n hn
  simp
  omega
theorem T_inj {l m : List Int} (hl : AllB l) (hm : AllB m) (h : T l = T m) : l = m := by
  rw [← num_T hl, ← num_T hm, h]
theorem T_app (l m : List Int) : T l ++ T m = T (l ++ m) := by
  apply ByteArray.ext
  rw [ByteArray.data_append]
  apply Array.toList_inj.1
  have e := T_toList l; have f := T_toList m; have g := T_toList (l ++ m)
  rw [ByteArray.toList_eq] at e f g
  rw [Array.toList_append, e, f, g, List.map_append]
theorem T_one : ({ data := #[61] } : ByteArray) = T [61] := by decide
theorem T_nil : ({ data := #[] } : ByteArray) = T [] := by decide
theorem T_cut (l : List Int) (a b : Nat) : (T l).extract a b = T ((l.drop a).take (b - a)) := by
  apply ByteArray.ext
  apply Array.toList_inj.1
  have e := T_toList l; have g := T_toList ((l.drop a).take (b - a))
  rw [ByteArray.toList_eq] at e g
  rw [g, ByteArray.data_extract, Array.toList_extract, e]
  simp [List.extract, List.map_take, List.map_drop]
theorem T_beq {l m : List Int} (hl : AllB l) (hm : AllB m) : ((T l).toList == (T m).toList) = decide (l = m) := by
  by_cases h : l = m
  · subst h; simp
  · have : (T l).toList ≠ (T m).toList := fun e => h (by
      rw [← num_T hl, ← num_T hm]; unfold num; rw [e])
    simp [h, this]
/-- A byte of a text. -/
theorem index_at (l : List Int) (h : AllB l) (i : Nat) (hi : i < l.length) (w : World) :
    (Instr.index 9 (.string (T l)) (.int .i64 (i : Int))).run Tryd.prog w = .ok (.int .u8 (l.getD i 0)) w := by
  rw [run_index_string w _ _ _ _ Tryd.underlying9]
  have hs : (i : Int) < ((T l).size : Int) := by rw [T_size]; omega
  have hsz : i < (T l).size := by rw [T_size]; exact hi
  have hlen : i < (T l).toList.length := by rw [T_toList, List.length_map]; exact hi
  rw [dif_pos ⟨by omega, hs⟩]
  have e1 : ((T l)[(i : Int).toNat]'(by simpa using hsz)) = (T l).toList[i]'hlen := by
    have : (T l).toList = (T l).data.toList := ByteArray.toList_eq _
    simp only [this]
    rfl
  rw [e1]
  have e2 : (T l).toList[i]'hlen = (l[i]).toNat.toUInt8 := by
    simp only [T_toList, List.getElem_map]
  rw [e2]
  have hv := h l[i] (List.getElem_mem hi)
  have e3 : l.getD i 0 = l[i] := by simp [List.getElem?_eq_getElem hi]
  rw [e3]
  have e4 : (((l[i]).toNat.toUInt8.toNat : Nat) : Int) = l[i] := by simp; omega
  rw [e4]
end Go.Proofs.YtpfkhcgeblihcaaDoor.Fa
