/-
  Texts as lists of numbers, plain: what may be a field's name; a pair's payload; where a payload is cut.
-/
import Derived.Test.YtmimfojlcihhaaaBlk
import Derived.Laws.Concat
import Derived.Laws.StructEq
import Derived.Laws.Strings2
import Derived.Laws.Strings3
namespace Go.Proofs.Ytmimfojlcihhaaa.Fa
open Go.ChangeShapes Go.WideShapes Go.ChangeAt Go.RowKit
open Bytes8 Blk8
set_option linter.unusedVariables false
set_option linter.unusedSimpArgs false

/-! ## texts as lists of numbers -/
abbrev T (l : List Int) : ByteArray := strOfNums l
def num (s : ByteArray) : List Int := s.toList.map fun c => (c.toNat : Int)
theorem T_toList (l : List Int) : (T l).toList = l.map fun n => n.toNat.toUInt8 := by
  show (strOfNums l).toList = _
  unfold strOfNums
  rw [ByteArray.toList_eq]
theorem num_len (s : ByteArray) : (num s).length = s.size := by
  unfold num; rw [List.length_map, ByteArray.toList_eq]; cases s; rfl
theorem num_all (s : ByteArray) : AllB (num s) := fun n hn => by
  obtain ⟨c, _, rfl⟩ := List.mem_map.1 hn
  have := c.toNat_lt
  constructor <;> omega
theorem T_size (l : List Int) : (T l).size = l.length := by
  have h := num_len (T l)
  rw [← h]; unfold num; rw [List.length_map, T_toList, List.length_map]
theorem T_num (s : ByteArray) : T (num s) = s := by
  have h : (T (num s)).toList = s.toList := by
    rw [T_toList]; unfold num; rw [List.map_map]
    conv => rhs; rw [← List.map_id s.toList]
    refine List.map_congr_left fun c _ => ?_
    simp
  rw [ByteArray.toList_eq, ByteArray.toList_eq] at h
  apply ByteArray.ext
  exact Array.toList_inj.1 h
theorem num_T {l : List Int} (h : AllB l) : num (T l) = l := by
  unfold num; rw [T_toList, List.map_map]
  conv => rhs; rw [← List.map_id l]
  refine List.map_congr_left fun n hn => ?_
  have := h n hn
  simp
  omega
theorem T_inj {l m : List Int} (hl : AllB l) (hm : AllB m) (h : T l = T m) : l = m := by
  rw [← num_T hl, ← num_T hm, h]
theorem T_app (l m : List Int) : T l ++ T m = T (l ++ m) := by
  apply ByteArray.ext
  rw [ByteArray.data_append]
  apply Array.toList_inj.1
  have e := T_toList l; have f := T_toList m; have g := T_toList (l ++ m)
  rw [ByteArray.toList_eq] at e f g
  rw [Array.toList_append, e, f, g, List.map_append]
theorem T_one : ({ data := #[61] } : ByteArray) = T [61] := by decide
theorem T_nil : ({ data := #[] } : ByteArray) = T [] := by decide
theorem T_cut (l : List Int) (a b : Nat) : (T l).extract a b = T ((l.drop a).take (b - a)) := by
  apply ByteArray.ext
  apply Array.toList_inj.1
  have e := T_toList l; have g := T_toList ((l.drop a).take (b - a))
  rw [ByteArray.toList_eq] at e g
  rw [g, ByteArray.data_extract, Array.toList_extract, e]
  simp [List.extract, List.map_take, List.map_drop]
theorem T_beq {l m : List Int} (hl : AllB l) (hm : AllB m) : ((T l).toList == (T m).toList) = decide (l = m) := by
  by_cases h : l = m
  · subst h; simp
  · have : (T l).toList ≠ (T m).toList := fun e => h (by
      rw [← num_T hl, ← num_T hm]; unfold num; rw [e])
    simp [h, this]
/-- A byte of a text. -/
theorem index_at (l : List Int) (h : AllB l) (i : Nat) (hi : i < l.length) (w : World) :
    (Instr.index 9 (.string (T l)) (.int .i64 (i : Int))).run Try.prog w = .ok (.int .u8 (l.getD i 0)) w := by
  rw [run_index_string w _ _ _ _ Try.underlying9]
  have hs : (i : Int) < ((T l).size : Int) := by rw [T_size]; omega
  have hsz : i < (T l).size := by rw [T_size]; exact hi
  have hlen : i < (T l).toList.length := by rw [T_toList, List.length_map]; exact hi
  rw [dif_pos ⟨by omega, hs⟩]
  have e1 : ((T l)[(i : Int).toNat]'(by simpa using hsz)) = (T l).toList[i]'hlen := by
    have : (T l).toList = (T l).data.toList := ByteArray.toList_eq _
    simp only [this]
    rfl
  rw [e1]
  have e2 : (T l).toList[i]'hlen = (l[i]).toNat.toUInt8 := by
    simp only [T_toList, List.getElem_map]
  rw [e2]
  have hv := h l[i] (List.getElem_mem hi)
  have e3 : l.getD i 0 = l[i] := by simp [List.getElem?_eq_getElem hi]
  rw [e3]
  have e4 : (((l[i]).toNat.toUInt8.toNat : Nat) : Int) = l[i] := by simp; omega
  rw [e4]

/-! ## names -/
def isDig (c : Int) : Bool := decide (48 ≤ c) && decide (c ≤ 57)
def isLet (c : Int) : Bool := decide (65 ≤ c) && decide (c ≤ 90)
def okC (c : Int) : Bool := isDig c || isLet c || decide (c = 95)
def nmB (l : List Int) : Bool := decide (1 ≤ l.length) && decide (l.length ≤ 64) && !(isDig (l.getD 0 0)) && l.all okC

theorem all_of {l : List Int} (h : ∀ j, j < l.length → okC (l.getD j 0) = true) : l.all okC = true := by
  rw [List.all_eq_true]
  intro x hx
  obtain ⟨j, hj, rfl⟩ := List.mem_iff_getElem.1 hx
  have := h j hj
  rwa [show l.getD j 0 = l[j] by simp [List.getElem?_eq_getElem hj]] at this
theorem of_all {l : List Int} (h : l.all okC = true) {j : Nat} (hj : j < l.length) : okC (l.getD j 0) = true := by
  rw [List.all_eq_true] at h
  have := h l[j] (List.getElem_mem hj)
  rwa [show l.getD j 0 = l[j] by simp [List.getElem?_eq_getElem hj]]
theorem nmB_no {l : List Int} {j : Nat} (hj : j < l.length) (h : okC (l.getD j 0) = false) : nmB l = false := by
  cases hn : nmB l with
  | false => rfl
  | true =>
    unfold nmB at hn
    simp only [Bool.and_eq_true] at hn
    rw [of_all hn.2 hj] at h; cases h
theorem nmB_yes {l : List Int} (h1 : 1 ≤ l.length) (h2 : l.length ≤ 64) (h3 : isDig (l.getD 0 0) = false) (h : ∀ j, j < l.length → okC (l.getD j 0) = true) : nmB l = true := by
  unfold nmB
  rw [decide_eq_true h1, decide_eq_true h2, h3, all_of h]
  rfl
theorem nmB_len {l : List Int} (h : nmB l = true) : 1 ≤ l.length ∧ l.length ≤ 64 := by
  unfold nmB at h; simp only [Bool.and_eq_true, decide_eq_true_eq] at h; exact h.1.1
theorem nmB_eq {l : List Int} (h : nmB l = true) : 61 ∉ l := fun hm => by
  unfold nmB at h
  simp only [Bool.and_eq_true] at h
  have := List.all_eq_true.1 h.2 61 hm
  revert this; decide

/-! ## pairs -/
/-- What Join tells of a pair. -/
def flawI (n v : List Int) : Int := if nmB n = true then (if 256 < v.length then 21 else 0) else 1
def pay (n v : List Int) : List Int := n ++ [61] ++ v
theorem pay_all {n v : List Int} (hn : AllB n) (hv : AllB v) : AllB (pay n v) := (hn.app (fun x hx => by simp at hx; subst hx; decide)).app hv
theorem pay_len (n v : List Int) : (pay n v).length = n.length + 1 + v.length := by unfold pay; simp; omega
/-- Where the first '=' is (behind the end: nowhere). -/
def cutI (l : List Int) : Nat := l.findIdx (· == 61)
theorem cutI_le (l : List Int) : cutI l ≤ l.length := List.findIdx_le_length
def splitE (l : List Int) : Int := if cutI l < l.length then (if nmB (l.take (cutI l)) = true then (if 256 < l.length - cutI l - 1 then 21 else 0) else 20) else 20
def splitN (l : List Int) : List Int := if splitE l = 0 then l.take (cutI l) else []
def splitV (l : List Int) : List Int := if splitE l = 0 then l.drop (cutI l + 1) else []
theorem splitN_all {l : List Int} (h : AllB l) : AllB (splitN l) := by
  unfold splitN; split
  · exact h.take _
  · intro x hx; cases hx
theorem splitV_all {l : List Int} (h : AllB l) : AllB (splitV l) := by
  unfold splitV; split
  · exact h.drop _
  · intro x hx; cases hx
theorem cutI_at {l : List Int} (h : cutI l < l.length) : l.getD (cutI l) 0 = 61 := by
  have := List.findIdx_getElem (p := (· == (61 : Int))) (xs := l) (w := h)
  simp only [beq_iff_eq] at this
  rw [show l.getD (cutI l) 0 = l[cutI l] by simp [List.getElem?_eq_getElem h]]
  exact this
theorem cutI_before {l : List Int} {j : Nat} (h : j < cutI l) : l.getD j 0 ≠ 61 := by
  have hj : j < l.length := Nat.lt_of_lt_of_le h (cutI_le l)
  have := List.not_of_lt_findIdx (p := (· == (61 : Int))) (xs := l) h
  simp only [beq_eq_false_iff_ne, ne_eq, Bool.not_eq_true] at this
  rw [show l.getD j 0 = l[j] by simp [List.getElem?_eq_getElem hj]]
  simpa using this
theorem cutI_is {l : List Int} {k : Nat} (hk : k < l.length) (h1 : l.getD k 0 = 61) (h2 : ∀ j, j < k → l.getD j 0 ≠ 61) : cutI l = k := by
  have hle : cutI l ≤ k := by
    rcases Nat.lt_or_ge k (cutI l) with h | h
    · exact absurd h1 (cutI_before h)
    · exact h
  rcases Nat.lt_or_ge (cutI l) k with h | h
  · exact absurd (cutI_at (Nat.lt_trans h hk)) (h2 _ h)
  · omega
theorem cutI_none {l : List Int} (h2 : ∀ j, j < l.length → l.getD j 0 ≠ 61) : cutI l = l.length := by
  rcases Nat.lt_or_ge (cutI l) l.length with h | h
  · exact absurd (cutI_at h) (h2 _ h)
  · have := cutI_le l; omega

/-- What is joined is split: the pair. -/
theorem split_pay {n v : List Int} (h : flawI n v = 0) : splitE (pay n v) = 0 ∧ splitN (pay n v) = n ∧ splitV (pay n v) = v := by
  unfold flawI at h
  by_cases hn : nmB n = true
  · rw [if_pos hn] at h
    have hv : ¬ 256 < v.length := by intro hv; rw [if_pos hv] at h; cases h
    have hc : cutI (pay n v) = n.length := by
      refine cutI_is (by rw [pay_len]; omega) ?_ fun j hj => ?_
      · unfold pay; simp
      · have : (pay n v).getD j 0 = n[j] := by unfold pay; simp [List.getElem?_append, hj]
        rw [this]
        intro e
        exact nmB_eq hn (e ▸ List.getElem_mem hj)
    have ht : (pay n v).take n.length = n := by unfold pay; simp
    have hd : (pay n v).drop (n.length + 1) = v := by unfold pay; simp
    have he : splitE (pay n v) = 0 := by
      unfold splitE
      rw [hc, if_pos (by rw [pay_len]; omega), ht, if_pos hn, if_neg (by rw [pay_len]; omega)]
    refine ⟨he, ?_, ?_⟩
    · unfold splitN; rw [if_pos he, hc, ht]
    · unfold splitV; rw [if_pos he, hc, hd]
  · rw [if_neg hn] at h; cases h
/-- What is split is what its pair makes. -/
theorem pay_split {l : List Int} (h : splitE l = 0) : flawI (splitN l) (splitV l) = 0 ∧ pay (splitN l) (splitV l) = l := by
  have hh := h
  unfold splitE at h
  by_cases h1 : cutI l < l.length
  · rw [if_pos h1] at h
    by_cases h2 : nmB (l.take (cutI l)) = true
    · rw [if_pos h2] at h
      have h3 : ¬ 256 < l.length - cutI l - 1 := by intro h3; rw [if_pos h3] at h; cases h
      have e1 : splitN l = l.take (cutI l) := by unfold splitN; rw [if_pos hh]
      have e2 : splitV l = l.drop (cutI l + 1) := by unfold splitV; rw [if_pos hh]
      constructor
      · unfold flawI; rw [e1, e2, if_pos h2, if_neg (by rw [List.length_drop]; omega)]
      · rw [e1, e2]; unfold pay
        have h4 := cutI_at h1
        rw [show l.getD (cutI l) 0 = l[cutI l] by simp [List.getElem?_eq_getElem h1]] at h4
        rw [List.append_assoc, ← h4]
        show l.take (cutI l) ++ (l[cutI l] :: l.drop (cutI l + 1)) = l
        rw [← List.drop_eq_getElem_cons h1, List.take_append_drop]
    · rw [if_neg h2] at h; cases h
  · rw [if_neg h1] at h; cases h
theorem split_not {l : List Int} (h : splitE l ≠ 0) : splitN l = [] ∧ splitV l = [] := by
  unfold splitN splitV; rw [if_neg h, if_neg h]; exact ⟨rfl, rfl⟩

/-! ## the walk's words -/
abbrev pv (n v : List Int) : Value := .agg #[.string (T n), .string (T v)]
theorem eql_pair {n v m u : List Int} (hn : AllB n) (hv : AllB v) (hm : AllB m) (hu : AllB u) (w : World) :
    (binOp .eql 24 (pv n v) (pv m u)).run Try.prog w = .ok (.bool (decide (n = m ∧ v = u))) w := by
  have a9 := Try.isAgg9
  have z9 := Try.sizeOf9
  have hS : Try.prog.underlying 24 = some (.struct (Try.prog.fieldsOf 24)) := by kernel_rfl
  have hp : Try.prog.stoodInHeld 24 = false := by kernel_rfl
  have b1 := T_beq hn hm
  have b2 := T_beq hv hu
  rw [run_eql_struct, show (10000 : Nat) = 9999 + 1 from rfl, run_equalIn_agg w 9999 _ _ _ hS hp]
  simp only [Program.fieldsOf, Try.underlying24]
  generalize T n = S1 at *
  generalize T v = S2 at *
  generalize T m = S3 at *
  generalize T u = S4 at *
  go_simp
  by_cases h1 : n = m <;> by_cases h2 : v = u <;> simp [h1, h2] at b1 b2 ⊢ <;> simp [b1, b2]
theorem neq_pair {n v m u : List Int} (hn : AllB n) (hv : AllB v) (hm : AllB m) (hu : AllB u) (w : World) :
    (binOp .neq 24 (pv n v) (pv m u)).run Try.prog w = .ok (.bool (!(decide (n = m ∧ v = u)))) w := by
  have a9 := Try.isAgg9
  have z9 := Try.sizeOf9
  have hS : Try.prog.underlying 24 = some (.struct (Try.prog.fieldsOf 24)) := by kernel_rfl
  have hp : Try.prog.stoodInHeld 24 = false := by kernel_rfl
  have b1 := T_beq hn hm
  have b2 := T_beq hv hu
  rw [run_neq_struct, show (10000 : Nat) = 9999 + 1 from rfl, run_equalIn_agg w 9999 _ _ _ hS hp]
  simp only [Program.fieldsOf, Try.underlying24]
  generalize T n = S1 at *
  generalize T v = S2 at *
  generalize T m = S3 at *
  generalize T u = S4 at *
  go_simp
  by_cases h1 : n = m <;> by_cases h2 : v = u <;> simp [h1, h2] at b1 b2 ⊢ <;> simp [b1, b2]
end Go.Proofs.Ytmimfojlcihhaaa.Fa
