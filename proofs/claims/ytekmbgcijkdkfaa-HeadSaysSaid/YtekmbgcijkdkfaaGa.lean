/-
  A journal's head in memory: its cells, its bytes.
-/
import Derived.Test.YtekmbgcijkdkfaaOe
import Derived.Deep.MidRow
import Derived.Deep.RegionHeld3
import Derived.Deep.CutBlock
import Derived.Laws.ResultCell
namespace Go.Proofs.Ytekmbgcijkdkfaa.Ga
open Go.ChangeShapes Go.WideShapes Go.ChangeAt Go.RowKit
open Bytes8 Blk8 Own8 OwnM LeNum Ob Oc Od
set_option linter.unusedVariables false
set_option linter.unusedSimpArgs false
set_option maxRecDepth 100000

/-- What a head has: its flags, its state, its IDs' bytes, its numbers, what stands behind them. -/
structure HD where
  cp : Int
  ic : Int
  st : Int
  I : Nat → Int
  N : Nat → Int
  ta : Int
  ti : Int
  te : Int
/-- The value at a place of a head of m numbers. -/
def HD.at_ (h : HD) (m i : Nat) : Value :=
  if i < 3 then (if i = 0 then .int .u32 h.cp else if i = 1 then .int .u32 h.ic else .int .i64 h.st)
  else if i < 67 then .int .u8 (h.I (i - 3))
  else if i < 67 + m then .int .u64 (h.N (i - 67))
  else if i = 67 + m then .int .u32 h.ta
  else if i = 68 + m then .int .u32 h.ti
  else .int .u64 h.te
def HD.cells (h : HD) (m : Nat) : List Value := (List.range (70 + m)).map (h.at_ m)
theorem HD.len (h : HD) (m : Nat) : (h.cells m).length = 70 + m := by simp [HD.cells]
theorem HD.get (h : HD) (m i : Nat) (hi : i < 70 + m) : (h.cells m)[i]? = some (h.at_ m i) := by simp [HD.cells, hi]
theorem HD.get_I (h : HD) (m i : Nat) (hi : i < 64) : (h.cells m)[3 + i]? = some (.int .u8 (h.I i)) := by
  rw [h.get m _ (by omega)]
  unfold HD.at_
  rw [if_neg (by omega), if_pos (by omega), show 3 + i - 3 = i by omega]
theorem HD.get_N (h : HD) (m i : Nat) (hi : i < m) : (h.cells m)[67 + i]? = some (.int .u64 (h.N i)) := by
  rw [h.get m _ (by omega)]
  unfold HD.at_
  rw [if_neg (by omega), if_neg (by omega), if_pos (by omega), show 67 + i - 67 = i by omega]
theorem HD.get_ta (h : HD) (m : Nat) : (h.cells m)[67 + m]? = some (.int .u32 h.ta) := by
  rw [h.get m _ (by omega)]
  unfold HD.at_
  rw [if_neg (by omega), if_neg (by omega), if_neg (by omega), if_pos rfl]
theorem HD.get_ti (h : HD) (m : Nat) : (h.cells m)[68 + m]? = some (.int .u32 h.ti) := by
  rw [h.get m _ (by omega)]
  unfold HD.at_
  rw [if_neg (by omega), if_neg (by omega), if_neg (by omega), if_neg (by omega), if_pos rfl]
theorem HD.get_te (h : HD) (m : Nat) : (h.cells m)[69 + m]? = some (.int .u64 h.te) := by
  rw [h.get m _ (by omega)]
  unfold HD.at_
  rw [if_neg (by omega), if_neg (by omega), if_neg (by omega), if_neg (by omega), if_neg (by omega)]
theorem HD.one (h : HD) (m : Nat) : (h.cells m).toArray.all (·.oneCell') = true := by
  rw [Array.all_eq_true_iff_forall_mem]
  intro x hx
  simp only [HD.cells, List.mem_toArray, List.mem_map, List.mem_range] at hx
  obtain ⟨i, _, rfl⟩ := hx
  unfold HD.at_
  repeat' split
  all_goals rfl
/-- All numbers fit. -/
structure HD.Ok (h : HD) (m : Nat) : Prop where
  cp : 0 ≤ h.cp ∧ h.cp ≤ 4294967295
  ic : 0 ≤ h.ic ∧ h.ic ≤ 4294967295
  st : -9223372036854775808 ≤ h.st ∧ h.st ≤ 9223372036854775807
  I : ∀ i, 0 ≤ h.I i ∧ h.I i < 256
  N : ∀ i, 0 ≤ h.N i ∧ h.N i ≤ 18446744073709551615
  ta : 0 ≤ h.ta ∧ h.ta ≤ 4294967295
  ti : 0 ≤ h.ti ∧ h.ti ≤ 4294967295
  te : 0 ≤ h.te ∧ h.te ≤ 18446744073709551615
/-- Sixteen of the IDs' bytes. -/
def HD.id (h : HD) (k : Nat) : List Int := (List.range 16).map fun i => h.I (16 * k + i)
def HD.ids (h : HD) (k : Nat) : List Int := (List.range (16 * k)).map h.I
def HD.nums (h : HD) (k : Nat) : List Int := (List.range k).map h.N
theorem HD.ids_succ (h : HD) (k : Nat) : h.ids (k + 1) = h.ids k ++ h.id k := by
  unfold HD.ids HD.id
  rw [show 16 * (k + 1) = 16 * k + 16 by omega, List.range_add, List.map_append, List.map_map]
  rfl
theorem HD.ids_len (h : HD) (k : Nat) : (h.ids k).length = 16 * k := by simp [HD.ids]
theorem HD.id_len (h : HD) (k : Nat) : (h.id k).length = 16 := by simp [HD.id]
theorem HD.nums_succ (h : HD) (k : Nat) : h.nums (k + 1) = h.nums k ++ [h.N k] := by
  unfold HD.nums
  rw [List.range_succ, List.map_append]
  rfl
theorem HD.nums_len (h : HD) (k : Nat) : (h.nums k).length = k := by simp [HD.nums]
theorem HD.id_all {h : HD} {m : Nat} (ok : h.Ok m) (k : Nat) : AllB (h.id k) := fun n hn => by
  simp only [HD.id, List.mem_map, List.mem_range] at hn
  obtain ⟨i, _, rfl⟩ := hn
  exact ok.I _
theorem HD.id_at {w : World} {g : Nat} {T : TypeId} {h : HD} {m : Nat} (hb : Blk w g (h.cells m) T) (ok : h.Ok m) (k : Nat) (hk : k < 4) : Bytes w (some ⟨g, 3 + 16 * k, none⟩) (h.id k) := by
  refine ⟨HD.id_all ok k, fun i hi => ⟨g, 3 + 16 * k, rfl, hb.lt, ?_⟩⟩
  rw [HD.id_len] at hi
  rw [Nat.add_assoc]
  rw [hb.cell (h.get_I m (16 * k + i) (by omega))]
  unfold HD.id
  simp [hi]
theorem HD.nums_all {h : HD} {m : Nat} (ok : h.Ok m) (k : Nat) : I64 (h.nums k) := fun v hv => by
  simp only [HD.nums, List.mem_map, List.mem_range] at hv
  obtain ⟨i, _, rfl⟩ := hv
  exact ok.N i
theorem HD.nums_at {w : World} {g : Nat} {T : TypeId} {h : HD} {m : Nat} (hb : Blk w g (h.cells m) T) (i : Nat) (hi : i < m) : w.cell? ⟨g, 67 + i, none⟩ = some (.int .u64 (h.N i)) := hb.cell (h.get_N m i hi)

/-- The bytes of a head of m numbers. -/
def magicL : List Int := [76, 80, 75, 83, 72, 72, 82, 72]
def HD.front (h : HD) : List Int := magicL ++ lowB h.cp 4 ++ lowB h.ic 4 ++ lowB (h.st % 256) 8
def HD.bytes (h : HD) (m : Nat) : List Int := h.front ++ h.ids 4 ++ Ob.nums (h.nums m) ++ lowB h.ta 4 ++ lowB h.ti 4 ++ lowB h.te 8
theorem HD.front_len (h : HD) : h.front.length = 24 := by unfold HD.front; simp [lowB_len, magicL]
theorem HD.bytes_len (h : HD) (m : Nat) : (h.bytes m).length = 104 + 8 * m := by
  unfold HD.bytes
  simp only [List.length_append, HD.front_len, HD.ids_len, Ob.nums_len, HD.nums_len, lowB_len]
  omega
theorem magic_all : AllB magicL := fun x hx => by simp [magicL] at hx; omega
theorem HD.front_all (h : HD) : AllB h.front := ((magic_all.app (lowB_all _ _)).app (lowB_all _ _)).app (lowB_all _ _)
end Go.Proofs.Ytekmbgcijkdkfaa.Ga
