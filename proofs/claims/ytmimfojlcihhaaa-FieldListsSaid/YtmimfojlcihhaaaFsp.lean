/-
  What Split, and the document's own, answer; two rows of bytes held against each other; the chapter's examples.
-/
import Derived.Test.YtmimfojlcihhaaaFc
import Derived.Test.YtmimfojlcihhaaaOwnE
import Derived.Laws.Externs
import Derived.Lib.SlBytesConst
namespace Go.Proofs.Ytmimfojlcihhaaa.Fsp
open Go.ChangeShapes Go.WideShapes Go.ChangeAt Go.RowKit
open Bytes8 Blk8 Fa Fb Fc OwnE
set_option linter.unusedVariables false
set_option linter.unusedSimpArgs false

theorem get_T (l : List Int) (hA : AllB l) (i : Nat) (hi : i < l.length) : ((T l)[i]! == (61 : UInt8)) = decide (l.getD i 0 = 61) := by
  have hsz : i < (T l).size := by rw [T_size]; exact hi
  have hlen : i < (T l).toList.length := by rw [T_toList, List.length_map]; exact hi
  have e0 : (T l)[i]! = (T l)[i]'hsz := getElem!_pos (T l) i hsz
  have e1 : ((T l)[i]'hsz) = (T l).toList[i]'hlen := by
    have : (T l).toList = (T l).data.toList := ByteArray.toList_eq _
    simp only [this]
    rfl
  have e2 : (T l).toList[i]'hlen = (l[i]).toNat.toUInt8 := by simp only [T_toList, List.getElem_map]
  have hv := hA l[i] (List.getElem_mem hi)
  have e3 : l.getD i 0 = l[i] := by simp [List.getElem?_eq_getElem hi]
  rw [e0, e1, e2, e3]
  by_cases h : l[i] = 61
  · simp [h]
  · have : (l[i]).toNat.toUInt8 ≠ (61 : UInt8) := fun e => h (by
      have := congrArg UInt8.toNat e
      simp at this
      omega)
    simp [h, this]

def idxI (l : List Int) : Int := if cutI l < l.length then (cutI l : Int) else -1
theorem first_cut (l : List Int) (hA : AllB l) : firstIdx (T l) 61 = idxI l := by
  unfold firstIdx idxI
  rw [T_size]
  by_cases h : cutI l < l.length
  · rw [if_pos h]
    have : (List.range l.length).find? (fun i => (T l)[i]! == (61 : UInt8)) = some (cutI l) := by
      rw [List.find?_range_eq_some]
      refine ⟨?_, List.mem_range.2 h, fun j hj => ?_⟩
      · show ((T l)[cutI l]! == (61 : UInt8)) = true
        rw [get_T l hA _ h, cutI_at h]; rfl
      · show (!((T l)[j]! == (61 : UInt8))) = true
        rw [get_T l hA _ (by omega), decide_eq_false (cutI_before hj)]; rfl
    rw [this]
  · rw [if_neg h]
    have : (List.range l.length).find? (fun i => (T l)[i]! == (61 : UInt8)) = none := by
      rw [List.find?_range_eq_none]
      intro j hj
      show (!((T l)[j]! == (61 : UInt8))) = true
      rw [get_T l hA _ hj, decide_eq_false (cutI_before (by have := cutI_le l; omega))]; rfl
    rw [this]

theorem indexByte_any (l : List Int) (hA : AllB l) (w : World) :
    Calls Try.prog 61 #[.string (T l), .int .u8 61] w fun e w' => e = .returned (.int .i64 (idxI l)) ∧ w = w' := by
  have hr : ∀ w, (Extern.BytealgIndexByte.indexByte #[.string (T l), .int .u8 61]).run Try.prog w = .ok (.int .i64 (idxI l)) w := fun w => by
    rw [run_indexByte_string]
    show Result.ok (Value.int .i64 (firstIdx (T l) 61)) w = _
    rw [first_cut l hA]
  generalize T l = S at *
  generalize idxI l = I at *
  go_enter Try.func61, Try.ntmps61
  go_wp2
  rw [run_callFunc_extern Try.func71 (by kernel_rfl) (by kernel_rfl) (by kernel_rfl) (e := Extern.BytealgIndexByte.indexByte) (by kernel_rfl), hr]
  simp only [Result.andThen]
  rw [Oper.upon_value]
  go_wp2
  go_ret
  exact ⟨rfl, rfl⟩

theorem index_any (l : List Int) (hA : AllB l) (hmax : l.length ≤ 1000000) (w : World) :
    Calls Try.prog 48 #[.string (T l), .string { data := #[61] }] w fun e w' => e = .returned (.int .i64 (idxI l)) ∧ w = w' := by
  have HB := Lib.hid fun w => indexByte_any l hA w
  have hq : ([61] == (T l).toList) = decide ([61] = l) := by
    have h1 := T_beq (l := [61]) (m := l) (fun x hx => by simp at hx; subst hx; decide) hA
    rw [← h1, show (T [61]).toList = [61] by rw [T_toList]; rfl]
  have hi0 : ∀ w, (Instr.index 9 (.string { data := #[61] }) (.int .i64 0)).run Try.prog w = .ok (.int .u8 61) w := fun w => by
    have := index_at [61] (fun x hx => by simp at hx; subst hx; decide) 0 (by decide) w
    rw [T_one]; exact this
  by_cases h : [61] = l
  · have hI : idxI l = 0 := by subst h; decide
    rw [hI]
    rw [decide_eq_true h] at hq
    clear HB hi0 hI h
    generalize T l = S at *
    go_enter Try.func48, Try.ntmps48
    go_wp2
    go_ret
    exact ⟨rfl, rfl⟩
  · rw [decide_eq_false h] at hq
    clear h
    generalize T l = S at *
    generalize idxI l = I at *
    go_enter Try.func48, Try.ntmps48
    go_wp2_with (go_at_call 61; (with_reducible refine (HB.out _).mono ?_); rintro e w' ⟨rfl, rfl⟩)
    go_ret
    exact ⟨rfl, rfl⟩

theorem slice_lo (l : List Int) (k : Nat) (hk : k ≤ l.length) (w : World) : (Instr.slice 9 (.string (T l)) none (some (.int .i64 (k : Int))) none).run Try.prog w = .ok (.string (T (l.take k))) w := by
  have hz := T_size l
  have e := T_cut l 0 k
  rw [List.drop_zero, Nat.sub_zero] at e
  rw [run_slice_string_to_if w 9 (T l) .i64 (k : Int) Try.underlying9, if_pos (by omega), Int.toNat_natCast, e]
theorem slice_hi (l : List Int) (k : Nat) (hk : k ≤ l.length) (w : World) : (Instr.slice 9 (.string (T l)) (some (.int .i64 (k : Int))) none none).run Try.prog w = .ok (.string (T (l.drop k))) w := by
  have hz := T_size l
  have e := T_cut l k l.length
  rw [List.take_of_length_le (by simp)] at e
  rw [run_slice_string_from_if w 9 (T l) .i64 (k : Int) Try.underlying9, if_pos (by omega), Int.toNat_natCast, hz, e]

/-- What Cut tells. -/
def cutA1 (l : List Int) : List Int := if cutI l < l.length then l.take (cutI l) else l
def cutA2 (l : List Int) : List Int := if cutI l < l.length then l.drop (cutI l + 1) else []
theorem lcut_any (l : List Int) (hA : AllB l) (hmax : l.length ≤ 1000000) (w : World) :
    Calls Try.prog 42 #[.string (T l), .string { data := #[61] }] w fun e w' => e = .returned (.tuple #[.string (T (cutA1 l)), .string (T (cutA2 l)), .bool (decide (cutI l < l.length))]) ∧ Grew w w' := by
  have HI := Lib.hid fun w => index_any l hA hmax w
  have hsz := T_size l
  by_cases h : cutI l < l.length
  · have h1 : cutA1 l = l.take (cutI l) := if_pos h
    have h2 : cutA2 l = l.drop (cutI l + 1) := if_pos h
    have h3 : idxI l = (cutI l : Int) := if_pos h
    have s1 := slice_lo l (cutI l) (by omega)
    have s2 : ∀ w, (Instr.slice 9 (.string (T l)) (some (.int .i64 ((cutI l : Int) + 1))) none none).run Try.prog w = .ok (.string (T (l.drop (cutI l + 1)))) w := slice_hi l (cutI l + 1) (by omega)
    rw [h1, h2, decide_eq_true h]
    rw [h3] at HI
    have hk : cutI l ≤ 1000000 := by omega
    clear h1 h2 h3 hA
    generalize l.length = len at *
    generalize T (l.take (cutI l)) = S1 at *
    generalize T (l.drop (cutI l + 1)) = S2 at *
    generalize T l = S at *
    generalize cutI l = k at *
    go_enter Try.func42, Try.ntmps42
    go_wp2_with (go_at_call 48; (with_reducible refine (HI.out _).mono ?_); rintro e w' ⟨rfl, rfl⟩)
    go_quiet (fail)
    go_wp2
    go_ret3
    exact ⟨rfl, (Grew.refl w).drewN _⟩
  · have h1 : cutA1 l = l := if_neg h
    have h2 : cutA2 l = [] := if_neg h
    have h3 : idxI l = -1 := if_neg h
    rw [h1, h2, decide_eq_false h, ← T_nil]
    rw [h3] at HI
    clear h1 h2 h3 hA
    generalize T l = S at *
    go_enter Try.func42, Try.ntmps42
    go_wp2_with (go_at_call 48; (with_reducible refine (HI.out _).mono ?_); rintro e w' ⟨rfl, rfl⟩)
    go_ret3
    exact ⟨rfl, Grew.refl w⟩
theorem cut_any (l : List Int) (hA : AllB l) (hmax : l.length ≤ 1000000) (w : World) :
    Calls Try.prog 30 #[.string (T l), .string { data := #[61] }] w fun e w' => e = .returned (.tuple #[.string (T (cutA1 l)), .string (T (cutA2 l)), .bool (decide (cutI l < l.length))]) ∧ Grew w w' := by
  have HC := Lib.hid fun w => lcut_any l hA hmax w
  generalize T (cutA1 l) = S1 at *
  generalize T (cutA2 l) = S2 at *
  generalize decide (cutI l < l.length) = b at *
  generalize T l = S at *
  go_enter Try.func30, Try.ntmps30
  go_wp2_with (go_at_call 42; (with_reducible refine (HC.out _).mono ?_); rintro e w' ⟨rfl, hG⟩)
  go_ret3
  exact ⟨rfl, hG⟩

def Splitted (l : List Int) (w : World) (e : Ending) (w' : World) : Prop := e = .returned (.tuple #[pv (splitN l) (splitV l), .int .i64 (splitE l)]) ∧ Below w.heap.size w w'

set_option maxRecDepth 100000 in
set_option maxRecDepth 100000 in
theorem split_any (a : Option Addr) (l : List Int) (len cap : Nat) (w : World) (hb : Bytes w a l) (hL : l.length = len) (hmax : len ≤ 1000000) :
    Calls Try.prog 9 #[.slice a len cap] w (Splitted l w) := by
  subst hL
  have hA := hb.1
  have HC := Lib.hid fun w => cut_any l hA hmax w
  have hcv : (convert 22 9 (.slice a l.length cap)).run Try.prog (w.alloc (.cells #[.string { data := #[] }, .string { data := #[] }] 24)) = .ok (.string (T l)) (w.alloc (.cells #[.string { data := #[] }, .string { data := #[] }] 24)) :=
    (hb.below ((Below.refl w.heap.size w).alloc (Nat.le_refl _) _) (Nat.le_refl _)).string cap _ rfl
  unfold Splitted
  have hE : splitE l = if cutI l < l.length then (if nmB (l.take (cutI l)) = true then (if 256 < l.length - cutI l - 1 then 21 else 0) else 20) else 20 := rfl
  have b0 : Below w.heap.size w (w.alloc (.cells #[.string { data := #[] }, .string { data := #[] }] 24)) := (Below.refl w.heap.size w).alloc (Nat.le_refl _) _
  by_cases h : cutI l < l.length
  · have h1 : cutA1 l = l.take (cutI l) := if_pos h
    have h2 : cutA2 l = l.drop (cutI l + 1) := if_pos h
    rw [h1, h2, decide_eq_true h] at HC
    rw [if_pos h] at hE
    have HN := Lib.hid fun w => name_any (l.take (cutI l)) (hA.take _) w
    have hvs : (T (l.drop (cutI l + 1))).size = l.length - cutI l - 1 := by rw [T_size, List.length_drop]; omega
    cases hnm : nmB (l.take (cutI l)) with
    | false =>
      rw [hnm] at HN hE
      have hF : splitE l = 20 := hE
      obtain ⟨e1, e2⟩ := split_not (l := l) (by rw [hF]; decide)
      dsimp only [pv]
      rw [hF, e1, e2, ← T_nil]
      clear hE hF e1 e2 hnm h1 h2 hb hA hvs
      generalize l.length = len at *
      generalize T (l.take (cutI l)) = S1 at *
      generalize T (l.drop (cutI l + 1)) = S2 at *
      generalize T l = S at *
      clear h
      go_enter Try.func9, Try.ntmps9
      go_wp2_with (first | (go_at_call 30; (with_reducible refine (HC.out _).mono ?_); rintro e w2 ⟨rfl, hG⟩; have HG := Lib.hid (b0.trans (hG.below.mono b0.size)); have R := Lib.hid ((Blk.new w [.string { data := #[] }, .string { data := #[] }] 24).below hG.below (by simp)); have c0 := R.out.cell (i := 0) rfl; have c1 := R.out.cell (i := 1) rfl; have f0 := R.out.frozen 0; have f1 := R.out.frozen 1; clear hG) | (go_at_call 16; (with_reducible refine (HN.out _).mono ?_); rintro e w' ⟨rfl, rfl⟩))
      refine bodyPost_ret (v := .tuple #[.agg #[.string { data := #[] }, .string { data := #[] }], .int .i64 20]) (by simp [results_cell_tmp Try.results9, go_sem, c0, c1, f0, f1, Result.andThen]) rfl ⟨rfl, ?_⟩
      (repeat (first | (with_reducible exact HG.out) | refine Below.setCell ?_ (by simp) _ | refine Below.alloc ?_ (by simp) _ | refine below_drewN ?_ _))
    | true =>
      rw [hnm] at HN hE
      rw [if_pos rfl] at hE
      by_cases hv : 256 < l.length - cutI l - 1
      · have hF : splitE l = 21 := hE.trans (if_pos hv)
        obtain ⟨e1, e2⟩ := split_not (l := l) (by rw [hF]; decide)
        dsimp only [pv]
        rw [hF, e1, e2, ← T_nil]
        clear hE hF e1 e2 hnm h1 h2 hb hA
        generalize l.length - cutI l - 1 = lv at *
        generalize l.length = len at *
        generalize T (l.take (cutI l)) = S1 at *
        generalize T (l.drop (cutI l + 1)) = S2 at *
        generalize T l = S at *
        clear h
        go_enter Try.func9, Try.ntmps9
        go_wp2_with (first | (go_at_call 30; (with_reducible refine (HC.out _).mono ?_); rintro e w2 ⟨rfl, hG⟩; have HG := Lib.hid (b0.trans (hG.below.mono b0.size)); have R := Lib.hid ((Blk.new w [.string { data := #[] }, .string { data := #[] }] 24).below hG.below (by simp)); have c0 := R.out.cell (i := 0) rfl; have c1 := R.out.cell (i := 1) rfl; have f0 := R.out.frozen 0; have f1 := R.out.frozen 1; clear hG) | (go_at_call 16; (with_reducible refine (HN.out _).mono ?_); rintro e w' ⟨rfl, rfl⟩))
        refine bodyPost_ret (v := .tuple #[.agg #[.string { data := #[] }, .string { data := #[] }], .int .i64 21]) (by simp [results_cell_tmp Try.results9, go_sem, c0, c1, f0, f1, Result.andThen]) rfl ⟨rfl, ?_⟩
        (repeat (first | (with_reducible exact HG.out) | refine Below.setCell ?_ (by simp) _ | refine Below.alloc ?_ (by simp) _ | refine below_drewN ?_ _))
      · have hF : splitE l = 0 := hE.trans (if_neg hv)
        have e1 : splitN l = l.take (cutI l) := by unfold splitN; rw [if_pos hF]
        have e2 : splitV l = l.drop (cutI l + 1) := by unfold splitV; rw [if_pos hF]
        dsimp only [pv]
        rw [hF, e1, e2]
        clear hE hF e1 e2 hnm h1 h2 hb hA
        generalize l.length - cutI l - 1 = lv at *
        generalize l.length = len at *
        generalize T (l.take (cutI l)) = S1 at *
        generalize T (l.drop (cutI l + 1)) = S2 at *
        generalize T l = S at *
        clear h
        go_enter Try.func9, Try.ntmps9
        go_wp2_with (first | (go_at_call 30; (with_reducible refine (HC.out _).mono ?_); rintro e w2 ⟨rfl, hG⟩; have HG := Lib.hid (b0.trans (hG.below.mono b0.size)); have R := Lib.hid ((Blk.new w [.string { data := #[] }, .string { data := #[] }] 24).below hG.below (by simp)); have c0 := R.out.cell (i := 0) rfl; have c1 := R.out.cell (i := 1) rfl; have f0 := R.out.frozen 0; have f1 := R.out.frozen 1; clear hG) | (go_at_call 16; (with_reducible refine (HN.out _).mono ?_); rintro e w' ⟨rfl, rfl⟩))
        refine bodyPost_ret (v := .tuple #[.agg #[.string S1, .string S2], .int .i64 0]) (by simp [results_cell_tmp Try.results9, go_sem, c0, c1, f0, f1, Result.andThen]) rfl ⟨rfl, ?_⟩
        (repeat (first | (with_reducible exact HG.out) | refine Below.setCell ?_ (by simp) _ | refine Below.alloc ?_ (by simp) _ | refine below_drewN ?_ _))
  · have h1 : cutA1 l = l := if_neg h
    have h2 : cutA2 l = [] := if_neg h
    rw [h1, h2, decide_eq_false h, ← T_nil] at HC
    rw [if_neg h] at hE
    have hF : splitE l = 20 := hE
    obtain ⟨e1, e2⟩ := split_not (l := l) (by rw [hF]; decide)
    dsimp only [pv]
    rw [hF, e1, e2, ← T_nil]
    clear hE hF e1 e2 h1 h2 hb hA
    have HN := Lib.hid True.intro
    generalize l.length = len at *
    generalize T l = S at *
    clear h
    go_enter Try.func9, Try.ntmps9
    go_wp2_with (go_at_call 30; (with_reducible refine (HC.out _).mono ?_); rintro e w2 ⟨rfl, hG⟩; have HG := Lib.hid (b0.trans (hG.below.mono b0.size)); have R := Lib.hid ((Blk.new w [.string { data := #[] }, .string { data := #[] }] 24).below hG.below (by simp)); have c0 := R.out.cell (i := 0) rfl; have c1 := R.out.cell (i := 1) rfl; have f0 := R.out.frozen 0; have f1 := R.out.frozen 1; clear hG)
    refine bodyPost_ret (v := .tuple #[.agg #[.string { data := #[] }, .string { data := #[] }], .int .i64 20]) (by simp [results_cell_tmp Try.results9, go_sem, c0, c1, f0, f1, Result.andThen]) rfl ⟨rfl, ?_⟩
    (repeat (first | (with_reducible exact HG.out) | refine Below.setCell ?_ (by simp) _ | refine Below.alloc ?_ (by simp) _ | refine below_drewN ?_ _))
end Go.Proofs.Ytmimfojlcihhaaa.Fsp
