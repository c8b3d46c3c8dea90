/-
  The document's sixteen bytes at a place; a head's cells set one by one.
-/
import Derived.Test.YtekmbgcijkdkfaaGo
namespace Go.Proofs.Ytekmbgcijkdkfaa.Gp
open Go.ChangeShapes Go.WideShapes Go.ChangeAt Go.RowKit
open Bytes8 Blk8 Own8 OwnM OwnE LeA LeNum LeB LeP RefA Ob Oc Od Ga Gb Gc Gd Gf Gi Gj
set_option linter.unusedVariables false
set_option linter.unusedSimpArgs false
set_option maxRecDepth 100000

def id16 (l : List Int) (p : Nat) : List Value := (List.range 16).map fun i => .int .u8 (l.getD (p + i) 0)
def id16k (l : List Int) (p k : Nat) : List Value := (List.range 16).map fun i => .int .u8 (if i < k then l.getD (p + i) 0 else 0)
theorem id16k_len (l : List Int) (p k : Nat) : (id16k l p k).length = 16 := by simp [id16k]
theorem id16k_zero (l : List Int) (p : Nat) : id16k l p 0 = [.int .u8 0, .int .u8 0, .int .u8 0, .int .u8 0, .int .u8 0, .int .u8 0, .int .u8 0, .int .u8 0, .int .u8 0, .int .u8 0, .int .u8 0, .int .u8 0, .int .u8 0, .int .u8 0, .int .u8 0, .int .u8 0] := rfl
theorem id16k_whole (l : List Int) (p : Nat) : id16k l p 16 = id16 l p := by
  unfold id16k id16
  apply List.map_congr_left
  intro i hi
  rw [if_pos (List.mem_range.1 hi)]
theorem id16k_get (l : List Int) (p k i : Nat) (hi : i < 16) : (id16k l p k)[i]? = some (.int .u8 (if i < k then l.getD (p + i) 0 else 0)) := by simp [id16k, hi]
theorem id16k_set (l : List Int) (p k : Nat) (hk : k < 16) : (id16k l p k).set k (.int .u8 (l.getD (p + k) 0)) = id16k l p (k + 1) := by
  apply List.ext_getElem?
  intro i
  rw [List.getElem?_set]
  by_cases hi : i < 16
  · by_cases he : k = i
    · subst he
      rw [if_pos rfl, if_pos (by rw [id16k_len]; exact hk), id16k_get _ _ _ _ hi, if_pos (Nat.lt_succ_self _)]
    · rw [if_neg he, id16k_get _ _ _ _ hi, id16k_get _ _ _ _ hi]
      by_cases h4 : i < k
      · rw [if_pos h4, if_pos (by omega)]
      · rw [if_neg h4, if_neg (by omega)]
  · rw [if_neg (by omega), List.getElem?_eq_none (by rw [id16k_len]; omega), List.getElem?_eq_none (by rw [id16k_len]; omega)]
theorem id16_one (l : List Int) (p : Nat) : (id16 l p).toArray.all (·.oneCell') = true := by
  rw [Array.all_eq_true_iff_forall_mem]
  intro x hx
  simp only [id16, List.mem_toArray, List.mem_map] at hx
  obtain ⟨i, _, rfl⟩ := hx
  rfl
theorem id16_info (l : List Int) (p : Nat) : (Try.prog.info? 24).map (·.size) = some (id16 l p).toArray.size := by rw [idInfo]; simp [id16]
theorem id16_idc (l : List Int) (k : Nat) : id16 l (24 + 16 * k) = idc (hdOf l) k := by
  unfold id16 idc HD.id hdOf
  rw [List.map_map]
  apply List.map_congr_left
  intro i _
  simp [Nat.add_assoc]
abbrev z16 : List Value := [.int .u8 0, .int .u8 0, .int .u8 0, .int .u8 0, .int .u8 0, .int .u8 0, .int .u8 0, .int .u8 0, .int .u8 0, .int .u8 0, .int .u8 0, .int .u8 0, .int .u8 0, .int .u8 0, .int .u8 0, .int .u8 0]
attribute [local irreducible] wpList Code.wp
set_option maxHeartbeats 2000000 in
theorem rid_any (A : Option Addr) (l : List Int) (n c p : Nat) (w : World) (hb : Bytes w A l) (hL : l.length = n) (hn : n ≤ 1000000) (hp : p + 16 ≤ n) :
    Calls Try.prog 54 #[.slice A n c, .int .i64 (p : Int)] w fun e w' => e = .returned (.agg (id16 l p).toArray) ∧ Below w.heap.size w w' := by
  obtain ⟨bb, off, rfl, hblt, hcell⟩ := hb.spot (by omega)
  have HB := Lib.hid hcell
  clear hcell hb
  have R0 := Lib.hid (show Blk ((w.alloc (.cells z16.toArray 24)).alloc (.cells z16.toArray 24)) w.heap.size z16 24 from (Blk.new w z16 _).alloc _)
  have Q0 := Lib.hid (show Blk ((w.alloc (.cells z16.toArray 24)).alloc (.cells z16.toArray 24)) (w.heap.size + 1) (id16k l p 0) 24 from Blk.new_at _ _ _ _ (by simp))
  have b0 := Lib.hid (((Below.refl w.heap.size w).alloc (Nat.le_refl _) (.cells z16.toArray 24)).alloc (by simp) (.cells z16.toArray 24))
  have S0 := Lib.hid (show ((w.alloc (.cells z16.toArray 24)).alloc (.cells z16.toArray 24)).heap.size = w.heap.size + 2 by simp)
  go_enter Try.func54, Try.ntmps54
  go_upto_region 2 with fail
  generalize (w.alloc (.cells z16.toArray 24)).alloc (.cells z16.toArray 24) = w0 at *
  go_wp2_with fail
  go_loopw [6] (fun i wr => ∃ k : Nat, k ≤ 16 ∧ i = .int .i64 (k : Int) ∧ Hid (Blk wr (w.heap.size + 1) (id16k l p k) 24) ∧ Hid (Below (w.heap.size + 1) w0 wr)) (fun i _ => 16 - (intOf i).toNat)
  case atStart => exact ⟨0, Nat.zero_le _, rfl, Q0, Lib.hid (Below.refl _ _)⟩
  case round =>
    obtain ⟨k, hk, rfl, hR, hB⟩ := hrel
    by_cases hlt : k < 16
    · have hst := Lib.hid (id16k_set l p k hlt)
      have hce : wr.cell? ⟨bb, off + (p + k), none⟩ = some (.int .u8 (l.getD (p + k) 0)) := ((hB.out.cell (p := ⟨bb, off + (p + k), none⟩) (Nat.lt_succ_of_lt hblt)).trans (b0.out.cell (p := ⟨bb, off + (p + k), none⟩) hblt)).trans (HB.out (p + k) (by omega))
      have ck := hR.out.cell (id16k_get l p k k hlt)
      have fk := hR.out.frozen k
      have hpk : (p : Int) + (k : Int) < (n : Int) := by omega
      have hpk0 : (0 : Int) ≤ (p : Int) + (k : Int) := by omega
      generalize l.getD (p + k) 0 = x at *
      go_wp2_with fail
      go_roundw
      case rel => exact ⟨k + 1, by omega, by go_num, Lib.hid (by rw [← hst.out]; exact hR.out.set_ k _), Lib.hid (hB.out.setCell (Nat.le_refl _) _)⟩
      case measure => simp [intOf]; omega
    · obtain rfl : k = 16 := by omega
      have Rz := Lib.hid (show Blk wr (w.heap.size + 1) (id16 l p) 24 by rw [← id16k_whole]; exact hR.out)
      have Z := Lib.hid ((hB.out.block w.heap.size (Nat.lt_succ_self _)).trans R0.out)
      have Bz := Lib.hid (b0.out.trans (hB.out.mono (Nat.le_succ _)))
      clear hR hB
      go_wp2_with (first
        | ((with_reducible apply at_slot 19); refine wpList_load_row rfl 24 (.tmp 5) rfl (w.heap.size + 1) rfl 24 (id16 l p).toArray (0, 0) _ Rz.out Try.underlying24 rfl (id16_info l p) ?_)
        | ((with_reducible apply at_store (.tmp 4) (.tmp 19)); refine wpList_store_row rfl 24 (.tmp 4) (.tmp 19) rfl w.heap.size (id16 l p).toArray rfl rfl 24 _ Z.out (id16_info l p) (by simp [id16]) (id16_one l p) ?_)
        | fail)
      refine bodyPost_ret (v := .agg (id16 l p).toArray) (by exact results_cell_row Try.results54 _ _ w.heap.size 24 _ (0, 0) _ rfl (setRow_heap _ w.heap.size _ _ _ (0, 0) Z.out) Try.underlying24 rfl (id16_info l p)) rfl ?_
      exact ⟨rfl, below_setRow Bz.out (Nat.le_refl _) _⟩
theorem cells_set (h k : HD) (m p : Nat) (v : Value) (hp : p < 70 + m) (h1 : k.at_ m p = v) (h2 : ∀ i, i < 70 + m → i ≠ p → k.at_ m i = h.at_ m i) : (h.cells m).set p v = k.cells m := by
  apply List.ext_getElem?
  intro i
  rw [List.getElem?_set]
  by_cases hi : i < 70 + m
  · by_cases he : p = i
    · subst he
      rw [if_pos rfl, if_pos (by rw [HD.len]; exact hp), HD.get _ m _ hi, h1]
    · rw [if_neg he, HD.get _ m i hi, HD.get _ m i hi, h2 i hi (fun e => he e.symm)]
  · rw [if_neg (by omega), List.getElem?_eq_none (by rw [HD.len]; omega), List.getElem?_eq_none (by rw [HD.len]; omega)]
theorem set_cp (h : HD) (m p : Nat) (v : Int) (hp : p = 0) : (h.cells m).set p (.int .u32 v) = ({ h with cp := v } : HD).cells m := by
  subst hp
  refine cells_set _ _ m _ _ (by omega) ?_ (fun i hi hne => ?_)
  · unfold HD.at_
    rfl
  · unfold HD.at_
    repeat' split
    all_goals first | rfl | (exfalso; omega)
theorem set_ic (h : HD) (m p : Nat) (v : Int) (hp : p = 1) : (h.cells m).set p (.int .u32 v) = ({ h with ic := v } : HD).cells m := by
  subst hp
  refine cells_set _ _ m _ _ (by omega) ?_ (fun i hi hne => ?_)
  · unfold HD.at_
    rfl
  · unfold HD.at_
    repeat' split
    all_goals first | rfl | (exfalso; omega)
theorem set_ta (h : HD) (m p : Nat) (v : Int) (hp : p = 67 + m) : (h.cells m).set p (.int .u32 v) = ({ h with ta := v } : HD).cells m := by
  subst hp
  refine cells_set _ _ m _ _ (by omega) ?_ (fun i hi hne => ?_)
  · unfold HD.at_
    rw [if_neg (by omega), if_neg (by omega), if_neg (by omega), if_pos rfl]
  · unfold HD.at_
    repeat' split
    all_goals first | rfl | (exfalso; omega)
theorem set_ti (h : HD) (m p : Nat) (v : Int) (hp : p = 68 + m) : (h.cells m).set p (.int .u32 v) = ({ h with ti := v } : HD).cells m := by
  subst hp
  refine cells_set _ _ m _ _ (by omega) ?_ (fun i hi hne => ?_)
  · unfold HD.at_
    rw [if_neg (by omega), if_neg (by omega), if_neg (by omega), if_neg (by omega), if_pos rfl]
  · unfold HD.at_
    repeat' split
    all_goals first | rfl | (exfalso; omega)
theorem set_te (h : HD) (m p : Nat) (v : Int) (hp : p = 69 + m) : (h.cells m).set p (.int .u64 v) = ({ h with te := v } : HD).cells m := by
  subst hp
  refine cells_set _ _ m _ _ (by omega) ?_ (fun i hi hne => ?_)
  · unfold HD.at_
    rw [if_neg (by omega), if_neg (by omega), if_neg (by omega), if_neg (by omega), if_neg (by omega)]
  · unfold HD.at_
    repeat' split
    all_goals first | rfl | (exfalso; omega)
end Go.Proofs.Ytekmbgcijkdkfaa.Gp
