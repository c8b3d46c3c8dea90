/-
  Texts beneath the proof, one behind the other.
-/
import Derived.Laws.Externs
import Derived.Lib.SlBytesConst
import Derived.Lib.Bytealg
import Derived.Shelf.SlSortCmp.QuietGrown
import Derived.Lib.SmallJoins
import Derived.Deep.SlicePairs
import Derived.Test.YtpfkhcgeblihcaaQa2
import Derived.Test.YtpfkhcgeblihcaaQa1

/-
  A maker of numbers behind a pointer: what N answers; a pair out of it.
-/
namespace Go.Proofs.Ytpfkhcgeblihcaa.Seq8
open Go.ChangeShapes Go.WideShapes Go.ChangeAt Go.RowKit
open Bytes8 Blk8 Fa Fb Fc Numb Rows2
set_option linter.unusedVariables false
set_option maxRecDepth 100000
set_option linter.unusedSimpArgs false

theorem ints_keptB {kk : IntKind} {w w' : World} {gq : Nat} {a : Option Addr} {len : Nat} {f : Nat → Int} (h : InInts kk w a len f) (hk : KeptB w.heap.size gq w w') (hne : 0 < len → ∀ b off, a = some ⟨b, off, none⟩ → b ≠ gq) : InInts kk w' a len f := fun i hi => by
  obtain ⟨b, off, e, h1, h2, h3⟩ := h i hi
  exact ⟨b, off, e, Nat.lt_of_lt_of_le h1 hk.size, (World.cell?_of_block (hk.block b h1 (hne (by omega) b off e))).trans h2, h3⟩

/-! ## the few names and values -/
abbrev nameLs : List (List Int) := [[65], [66], [77, 69, 83, 83, 65, 71, 69], [95, 80, 73, 68], [88, 95, 49], [80, 82, 73, 79, 82, 73, 84, 89]]
abbrev valueLs : List (List Int) := [[], [48], [49], [50, 50], [97, 61, 98], [111, 110, 101, 10, 116, 119, 111], [0, 255], [116, 97, 98, 9, 104, 101, 114, 101], [108, 111, 110, 103, 32, 108, 111, 110, 103, 32, 108, 111, 110, 103, 32, 108, 111, 110, 103, 32, 108, 111, 110, 103, 32, 108, 111, 110, 103, 32, 108, 111, 110, 103], [126, 127, 128]]
def texts (ls : List (List Int)) : List Value := ls.map fun l => .string (T l)
theorem names_ok : ∀ n ∈ nameLs, AllB n ∧ nmB n = true := by
  intro n hn
  have h : nameLs.all (fun n => n.all (fun x => decide (0 ≤ x) && decide (x < 256)) && nmB n) = true := by decide +kernel
  have := List.all_eq_true.1 h n hn
  simp only [Bool.and_eq_true] at this
  exact ⟨Ff.small_all this.1, this.2⟩
theorem values_ok : ∀ v ∈ valueLs, AllB v ∧ v.length ≤ 256 := by
  intro n hn
  have h : valueLs.all (fun n => n.all (fun x => decide (0 ≤ x) && decide (x < 256)) && decide (n.length ≤ 256)) = true := by decide +kernel
  have := List.all_eq_true.1 h n hn
  simp only [Bool.and_eq_true, decide_eq_true_eq] at this
  exact ⟨Ff.small_all this.1, this.2⟩
theorem flaw_ok {n v : List Int} (hn : nmB n = true) (hv : v.length ≤ 256) : flawI n v = 0 := by
  unfold flawI; rw [if_pos hn, if_neg (by omega)]

end Go.Proofs.Ytpfkhcgeblihcaa.Seq8

/-
  A pair out of a maker of numbers.
-/
namespace Go.Proofs.Ytpfkhcgeblihcaa.SeqP
open Go.ChangeShapes Go.WideShapes Go.ChangeAt Go.RowKit
open Bytes8 Blk8 Fa Fb Fc Numb Rows2 Seq8
set_option linter.unusedVariables false
set_option maxRecDepth 100000
set_option linter.unusedSimpArgs false

theorem text_at {w : World} {g : Nat} {ls : List (List Int)} {T0 : TypeId} (h : Blk w g (texts ls) T0) (i : Nat) (hi : i < ls.length) : w.cell? ⟨g, i, none⟩ = some (.string (T (ls.getD i []))) := by
  refine h.cell ?_
  unfold texts
  rw [List.getElem?_map, List.getElem?_eq_getElem hi]
  simp [List.getElem?_eq_getElem hi]
theorem text_is {w : World} {g : Nat} {ls : List (List Int)} {T0 : TypeId} (h : Blk w g (texts ls) T0) (i : Nat) (hi : i < ls.length) {nm : List Int} (hn : nm = ls.getD i []) : w.cell? ⟨g, i, none⟩ = some (.string (T nm)) := hn ▸ text_at h i hi
theorem getD_mem {ls : List (List Int)} {i : Nat} (hi : i < ls.length) : ls.getD i [] ∈ ls := by
  rw [List.getD_eq_getElem?_getD, List.getElem?_eq_getElem hi]
  exact List.getElem_mem hi

end Go.Proofs.Ytpfkhcgeblihcaa.SeqP

/-
  A pair out of numbers: of the few names and values.
-/
namespace Go.Proofs.Ytpfkhcgeblihcaa.Qt
open Go.ChangeShapes Go.WideShapes Go.ChangeAt Go.RowKit
open Bytes8 Blk8 Fa Fb Fc Numb Rows2 Seq8
set_option linter.unusedVariables false
set_option maxRecDepth 100000
set_option linter.unusedSimpArgs false
open SeqP (text_at text_is getD_mem)
theorem values_few : ∀ v ∈ valueLs, v.length ≤ 255 := by
  intro n hn
  have h : valueLs.all (fun n => decide (n.length ≤ 255)) = true := by decide +kernel
  have := List.all_eq_true.1 h n hn
  simpa using this
end Go.Proofs.Ytpfkhcgeblihcaa.Qt

/-
  What Split, and the document's own, answer; two rows of bytes held against each other; the chapter's examples.
-/
namespace Go.Proofs.Ytpfkhcgeblihcaa.Fsp
open Go.ChangeShapes Go.WideShapes Go.ChangeAt Go.RowKit
open Bytes8 Blk8 Fa Fb Fc OwnE
set_option linter.unusedVariables false
set_option maxRecDepth 100000
set_option linter.unusedSimpArgs false

theorem get_T (l : List Int) (hA : AllB l) (i : Nat) (hi : i < l.length) : ((T l)[i]! == (61 : UInt8)) = decide (l.getD i 0 = 61) := by
  have hsz : i < (T l).size := by rw [T_size]; exact hi
  have hlen : i < (T l).toList.length := by rw [T_toList, List.length_map]; exact hi
  have e0 : (T l)[i]! = (T l)[i]'hsz := getElem!_pos (T l) i hsz
  have e1 : ((T l)[i]'hsz) = (T l).toList[i]'hlen := by
    have : (T l).toList = (T l).data.toList := ByteArray.toList_eq _
    simp only [this]
    rfl
  have e2 : (T l).toList[i]'hlen = (l[i]).toNat.toUInt8 := by simp only [T_toList, List.getElem_map]
  have hv := hA l[i] (List.getElem_mem hi)
  have e3 : l.getD i 0 = l[i] := by simp [List.getElem?_eq_getElem hi]
  rw [e0, e1, e2, e3]
  by_cases h : l[i] = 61
  · simp [h]
  · have : (l[i]).toNat.toUInt8 ≠ (61 : UInt8) := fun e => h (by
      have := congrArg UInt8.toNat e
      simp at this
      omega)
    simp [h, this]

def idxI (l : List Int) : Int := if cutI l < l.length then (cutI l : Int) else -1
theorem first_cut (l : List Int) (hA : AllB l) : firstIdx (T l) 61 = idxI l := by
  unfold firstIdx idxI
  rw [T_size]
  by_cases h : cutI l < l.length
  · rw [if_pos h]
    have : (List.range l.length).find? (fun i => (T l)[i]! == (61 : UInt8)) = some (cutI l) := by
      rw [List.find?_range_eq_some]
      refine ⟨?_, List.mem_range.2 h, fun j hj => ?_⟩
      · show ((T l)[cutI l]! == (61 : UInt8)) = true
        rw [get_T l hA _ h, cutI_at h]; rfl
      · show (!((T l)[j]! == (61 : UInt8))) = true
        rw [get_T l hA _ (by omega), decide_eq_false (cutI_before hj)]; rfl
    rw [this]
  · rw [if_neg h]
    have : (List.range l.length).find? (fun i => (T l)[i]! == (61 : UInt8)) = none := by
      rw [List.find?_range_eq_none]
      intro j hj
      show (!((T l)[j]! == (61 : UInt8))) = true
      rw [get_T l hA _ hj, decide_eq_false (cutI_before (by have := cutI_le l; omega))]; rfl
    rw [this]

theorem indexByte_any (l : List Int) (hA : AllB l) (w : World) :
    Calls Try.prog 70 #[.string (T l), .int .u8 61] w fun e w' => e = .returned (.int .i64 (idxI l)) ∧ w = w' := by
  have hr : ∀ w, (Extern.BytealgIndexByte.indexByte #[.string (T l), .int .u8 61]).run Try.prog w = .ok (.int .i64 (idxI l)) w := fun w => by
    rw [run_indexByte_string]
    show Result.ok (Value.int .i64 (firstIdx (T l) 61)) w = _
    rw [first_cut l hA]
  generalize T l = S at *
  generalize idxI l = I at *
  go_enter Try.func70, Try.ntmps70
  go_wp2
  rw [run_callFunc_extern Try.func75 (by kernel_rfl) (by kernel_rfl) (by kernel_rfl) (e := Extern.BytealgIndexByte.indexByte) (by kernel_rfl), hr]
  simp only [Result.andThen]
  rw [Oper.upon_value]
  go_wp2
  go_ret
  exact ⟨rfl, rfl⟩

theorem index_any (l : List Int) (hA : AllB l) (hmax : l.length ≤ 1000000) (w : World) :
    Calls Try.prog 64 #[.string (T l), .string { data := #[61] }] w fun e w' => e = .returned (.int .i64 (idxI l)) ∧ w = w' := by
  have HB := Lib.hid fun w => indexByte_any l hA w
  have hq : ([61] == (T l).toList) = decide ([61] = l) := by
    have h1 := T_beq (l := [61]) (m := l) (fun x hx => by simp at hx; subst hx; decide) hA
    rw [← h1, show (T [61]).toList = [61] by rw [T_toList]; rfl]
  have hi0 : ∀ w, (Instr.index 9 (.string { data := #[61] }) (.int .i64 0)).run Try.prog w = .ok (.int .u8 61) w := fun w => by
    have := index_at [61] (fun x hx => by simp at hx; subst hx; decide) 0 (by decide) w
    rw [T_one]; exact this
  by_cases h : [61] = l
  · have hI : idxI l = 0 := by subst h; decide
    rw [hI]
    rw [decide_eq_true h] at hq
    clear HB hi0 hI h
    generalize T l = S at *
    go_enter Try.func64, Try.ntmps64
    go_wp2
    go_ret
    exact ⟨rfl, rfl⟩
  · rw [decide_eq_false h] at hq
    clear h
    generalize T l = S at *
    generalize idxI l = I at *
    go_enter Try.func64, Try.ntmps64
    go_wp2_with (go_at_call 70; (with_reducible refine (HB.out _).mono ?_); rintro e w' ⟨rfl, rfl⟩)
    go_ret
    exact ⟨rfl, rfl⟩

theorem slice_lo (l : List Int) (k : Nat) (hk : k ≤ l.length) (w : World) : (Instr.slice 9 (.string (T l)) none (some (.int .i64 (k : Int))) none).run Try.prog w = .ok (.string (T (l.take k))) w := by
  have hz := T_size l
  have e := T_cut l 0 k
  rw [List.drop_zero, Nat.sub_zero] at e
  rw [run_slice_string_to_if w 9 (T l) .i64 (k : Int) Try.underlying9, if_pos (by omega), Int.toNat_natCast, e]
theorem slice_hi (l : List Int) (k : Nat) (hk : k ≤ l.length) (w : World) : (Instr.slice 9 (.string (T l)) (some (.int .i64 (k : Int))) none none).run Try.prog w = .ok (.string (T (l.drop k))) w := by
  have hz := T_size l
  have e := T_cut l k l.length
  rw [List.take_of_length_le (by simp)] at e
  rw [run_slice_string_from_if w 9 (T l) .i64 (k : Int) Try.underlying9, if_pos (by omega), Int.toNat_natCast, hz, e]

/-- What Cut tells. -/
def cutA1 (l : List Int) : List Int := if cutI l < l.length then l.take (cutI l) else l
def cutA2 (l : List Int) : List Int := if cutI l < l.length then l.drop (cutI l + 1) else []
theorem lcut_any (l : List Int) (hA : AllB l) (hmax : l.length ≤ 1000000) (w : World) :
    Calls Try.prog 47 #[.string (T l), .string { data := #[61] }] w fun e w' => e = .returned (.tuple #[.string (T (cutA1 l)), .string (T (cutA2 l)), .bool (decide (cutI l < l.length))]) ∧ Grew w w' := by
  have HI := Lib.hid fun w => index_any l hA hmax w
  have hsz := T_size l
  by_cases h : cutI l < l.length
  · have h1 : cutA1 l = l.take (cutI l) := if_pos h
    have h2 : cutA2 l = l.drop (cutI l + 1) := if_pos h
    have h3 : idxI l = (cutI l : Int) := if_pos h
    have s1 := slice_lo l (cutI l) (by omega)
    have s2 : ∀ w, (Instr.slice 9 (.string (T l)) (some (.int .i64 ((cutI l : Int) + 1))) none none).run Try.prog w = .ok (.string (T (l.drop (cutI l + 1)))) w := slice_hi l (cutI l + 1) (by omega)
    rw [h1, h2, decide_eq_true h]
    rw [h3] at HI
    have hk : cutI l ≤ 1000000 := by omega
    clear h1 h2 h3 hA
    generalize l.length = len at *
    generalize T (l.take (cutI l)) = S1 at *
    generalize T (l.drop (cutI l + 1)) = S2 at *
    generalize T l = S at *
    generalize cutI l = k at *
    go_enter Try.func47, Try.ntmps47
    go_wp2_with (go_at_call 64; (with_reducible refine (HI.out _).mono ?_); rintro e w' ⟨rfl, rfl⟩)
    go_quiet (fail)
    go_wp2
    go_ret3
    exact ⟨rfl, (Grew.refl w).drewN _⟩
  · have h1 : cutA1 l = l := if_neg h
    have h2 : cutA2 l = [] := if_neg h
    have h3 : idxI l = -1 := if_neg h
    rw [h1, h2, decide_eq_false h, ← T_nil]
    rw [h3] at HI
    clear h1 h2 h3 hA
    generalize T l = S at *
    go_enter Try.func47, Try.ntmps47
    go_wp2_with (go_at_call 64; (with_reducible refine (HI.out _).mono ?_); rintro e w' ⟨rfl, rfl⟩)
    go_ret3
    exact ⟨rfl, Grew.refl w⟩
theorem cut_any (l : List Int) (hA : AllB l) (hmax : l.length ≤ 1000000) (w : World) :
    Calls Try.prog 35 #[.string (T l), .string { data := #[61] }] w fun e w' => e = .returned (.tuple #[.string (T (cutA1 l)), .string (T (cutA2 l)), .bool (decide (cutI l < l.length))]) ∧ Grew w w' := by
  have HC := Lib.hid fun w => lcut_any l hA hmax w
  generalize T (cutA1 l) = S1 at *
  generalize T (cutA2 l) = S2 at *
  generalize decide (cutI l < l.length) = b at *
  generalize T l = S at *
  go_enter Try.func35, Try.ntmps35
  go_wp2_with (go_at_call 47; (with_reducible refine (HC.out _).mono ?_); rintro e w' ⟨rfl, hG⟩)
  go_ret3
  exact ⟨rfl, hG⟩

def Splitted (l : List Int) (w : World) (e : Ending) (w' : World) : Prop := e = .returned (.tuple #[pv (splitN l) (splitV l), .int .i64 (splitE l)]) ∧ Below w.heap.size w w'

set_option maxRecDepth 100000 in
set_option maxRecDepth 100000 in
theorem split_any (a : Option Addr) (l : List Int) (len cap : Nat) (w : World) (hb : Bytes w a l) (hL : l.length = len) (hmax : len ≤ 1000000) :
    Calls Try.prog 18 #[.slice a len cap] w (Splitted l w) := by
  subst hL
  have hA := hb.1
  have HC := Lib.hid fun w => cut_any l hA hmax w
  have hcv : (convert 44 9 (.slice a l.length cap)).run Try.prog (w.alloc (.cells #[.string { data := #[] }, .string { data := #[] }] 40)) = .ok (.string (T l)) (w.alloc (.cells #[.string { data := #[] }, .string { data := #[] }] 40)) :=
    (hb.below ((Below.refl w.heap.size w).alloc (Nat.le_refl _) _) (Nat.le_refl _)).string cap _ rfl
  unfold Splitted
  have hE : splitE l = if cutI l < l.length then (if nmB (l.take (cutI l)) = true then (if 256 < l.length - cutI l - 1 then 21 else 0) else 20) else 20 := rfl
  have b0 : Below w.heap.size w (w.alloc (.cells #[.string { data := #[] }, .string { data := #[] }] 40)) := (Below.refl w.heap.size w).alloc (Nat.le_refl _) _
  by_cases h : cutI l < l.length
  · have h1 : cutA1 l = l.take (cutI l) := if_pos h
    have h2 : cutA2 l = l.drop (cutI l + 1) := if_pos h
    rw [h1, h2, decide_eq_true h] at HC
    rw [if_pos h] at hE
    have HN := Lib.hid fun w => name_any (l.take (cutI l)) (hA.take _) w
    have hvs : (T (l.drop (cutI l + 1))).size = l.length - cutI l - 1 := by rw [T_size, List.length_drop]; omega
    cases hnm : nmB (l.take (cutI l)) with
    | false =>
      rw [hnm] at HN hE
      have hF : splitE l = 20 := hE
      obtain ⟨e1, e2⟩ := split_not (l := l) (by rw [hF]; decide)
      dsimp only [pv]
      rw [hF, e1, e2, ← T_nil]
      clear hE hF e1 e2 hnm h1 h2 hb hA hvs
      generalize l.length = len at *
      generalize T (l.take (cutI l)) = S1 at *
      generalize T (l.drop (cutI l + 1)) = S2 at *
      generalize T l = S at *
      clear h
      go_enter Try.func18, Try.ntmps18
      go_wp2_with (first | (go_at_call 35; (with_reducible refine (HC.out _).mono ?_); rintro e w2 ⟨rfl, hG⟩; have HG := Lib.hid (b0.trans (hG.below.mono b0.size)); have R := Lib.hid ((Blk.new w [.string { data := #[] }, .string { data := #[] }] 40).below hG.below (by simp)); have c0 := R.out.cell (i := 0) rfl; have c1 := R.out.cell (i := 1) rfl; have f0 := R.out.frozen 0; have f1 := R.out.frozen 1; clear hG) | (go_at_call 36; (with_reducible refine (HN.out _).mono ?_); rintro e w' ⟨rfl, rfl⟩))
      refine bodyPost_ret (v := .tuple #[.agg #[.string { data := #[] }, .string { data := #[] }], .int .i64 20]) (by simp [results_cell_tmp Try.results18, go_sem, c0, c1, f0, f1, Result.andThen]) rfl ⟨rfl, ?_⟩
      (repeat (first | (with_reducible exact HG.out) | refine Below.setCell ?_ (by simp) _ | refine Below.alloc ?_ (by simp) _ | refine below_drewN ?_ _))
    | true =>
      rw [hnm] at HN hE
      rw [if_pos rfl] at hE
      by_cases hv : 256 < l.length - cutI l - 1
      · have hF : splitE l = 21 := hE.trans (if_pos hv)
        obtain ⟨e1, e2⟩ := split_not (l := l) (by rw [hF]; decide)
        dsimp only [pv]
        rw [hF, e1, e2, ← T_nil]
        clear hE hF e1 e2 hnm h1 h2 hb hA
        generalize l.length - cutI l - 1 = lv at *
        generalize l.length = len at *
        generalize T (l.take (cutI l)) = S1 at *
        generalize T (l.drop (cutI l + 1)) = S2 at *
        generalize T l = S at *
        clear h
        go_enter Try.func18, Try.ntmps18
        go_wp2_with (first | (go_at_call 35; (with_reducible refine (HC.out _).mono ?_); rintro e w2 ⟨rfl, hG⟩; have HG := Lib.hid (b0.trans (hG.below.mono b0.size)); have R := Lib.hid ((Blk.new w [.string { data := #[] }, .string { data := #[] }] 40).below hG.below (by simp)); have c0 := R.out.cell (i := 0) rfl; have c1 := R.out.cell (i := 1) rfl; have f0 := R.out.frozen 0; have f1 := R.out.frozen 1; clear hG) | (go_at_call 36; (with_reducible refine (HN.out _).mono ?_); rintro e w' ⟨rfl, rfl⟩))
        refine bodyPost_ret (v := .tuple #[.agg #[.string { data := #[] }, .string { data := #[] }], .int .i64 21]) (by simp [results_cell_tmp Try.results18, go_sem, c0, c1, f0, f1, Result.andThen]) rfl ⟨rfl, ?_⟩
        (repeat (first | (with_reducible exact HG.out) | refine Below.setCell ?_ (by simp) _ | refine Below.alloc ?_ (by simp) _ | refine below_drewN ?_ _))
      · have hF : splitE l = 0 := hE.trans (if_neg hv)
        have e1 : splitN l = l.take (cutI l) := by unfold splitN; rw [if_pos hF]
        have e2 : splitV l = l.drop (cutI l + 1) := by unfold splitV; rw [if_pos hF]
        dsimp only [pv]
        rw [hF, e1, e2]
        clear hE hF e1 e2 hnm h1 h2 hb hA
        generalize l.length - cutI l - 1 = lv at *
        generalize l.length = len at *
        generalize T (l.take (cutI l)) = S1 at *
        generalize T (l.drop (cutI l + 1)) = S2 at *
        generalize T l = S at *
        clear h
        go_enter Try.func18, Try.ntmps18
        go_wp2_with (first | (go_at_call 35; (with_reducible refine (HC.out _).mono ?_); rintro e w2 ⟨rfl, hG⟩; have HG := Lib.hid (b0.trans (hG.below.mono b0.size)); have R := Lib.hid ((Blk.new w [.string { data := #[] }, .string { data := #[] }] 40).below hG.below (by simp)); have c0 := R.out.cell (i := 0) rfl; have c1 := R.out.cell (i := 1) rfl; have f0 := R.out.frozen 0; have f1 := R.out.frozen 1; clear hG) | (go_at_call 36; (with_reducible refine (HN.out _).mono ?_); rintro e w' ⟨rfl, rfl⟩))
        refine bodyPost_ret (v := .tuple #[.agg #[.string S1, .string S2], .int .i64 0]) (by simp [results_cell_tmp Try.results18, go_sem, c0, c1, f0, f1, Result.andThen]) rfl ⟨rfl, ?_⟩
        (repeat (first | (with_reducible exact HG.out) | refine Below.setCell ?_ (by simp) _ | refine Below.alloc ?_ (by simp) _ | refine below_drewN ?_ _))
  · have h1 : cutA1 l = l := if_neg h
    have h2 : cutA2 l = [] := if_neg h
    rw [h1, h2, decide_eq_false h, ← T_nil] at HC
    rw [if_neg h] at hE
    have hF : splitE l = 20 := hE
    obtain ⟨e1, e2⟩ := split_not (l := l) (by rw [hF]; decide)
    dsimp only [pv]
    rw [hF, e1, e2, ← T_nil]
    clear hE hF e1 e2 h1 h2 hb hA
    have HN := Lib.hid True.intro
    generalize l.length = len at *
    generalize T l = S at *
    clear h
    go_enter Try.func18, Try.ntmps18
    go_wp2_with (go_at_call 35; (with_reducible refine (HC.out _).mono ?_); rintro e w2 ⟨rfl, hG⟩; have HG := Lib.hid (b0.trans (hG.below.mono b0.size)); have R := Lib.hid ((Blk.new w [.string { data := #[] }, .string { data := #[] }] 40).below hG.below (by simp)); have c0 := R.out.cell (i := 0) rfl; have c1 := R.out.cell (i := 1) rfl; have f0 := R.out.frozen 0; have f1 := R.out.frozen 1; clear hG)
    refine bodyPost_ret (v := .tuple #[.agg #[.string { data := #[] }, .string { data := #[] }], .int .i64 20]) (by simp [results_cell_tmp Try.results18, go_sem, c0, c1, f0, f1, Result.andThen]) rfl ⟨rfl, ?_⟩
    (repeat (first | (with_reducible exact HG.out) | refine Below.setCell ?_ (by simp) _ | refine Below.alloc ?_ (by simp) _ | refine below_drewN ?_ _))
end Go.Proofs.Ytpfkhcgeblihcaa.Fsp

/-
  What the document's own Split answers; two rows of bytes held against each other; the chapter's examples.
-/
namespace Go.Proofs.Ytpfkhcgeblihcaa.Fe
open Go.ChangeShapes Go.WideShapes Go.ChangeAt Go.RowKit
open Bytes8 Blk8 Fa Fb Fc Fsp OwnE
set_option linter.unusedVariables false
set_option maxRecDepth 100000
set_option linter.unusedSimpArgs false

theorem cut_h (A : Option Addr) (len cap hi : Nat) (h2 : hi ≤ cap) (w : World) :
    (Instr.slice 44 (.slice A len cap) none (some (.int .i64 (hi : Int))) none).run Try.prog w = .ok (.slice (cutA A cap 0) hi cap) w := by
  have ht : Try.prog.underlying 44 = some (.slice (Try.prog.elem 44)) := by rw [elem8]; exact Try.underlying44
  rw [run_slice_h w 44 A len cap ht .i64 hi (by omega) (by omega), elem8, sizeof8]
  simp [Result.andThen, sliced, cutA]

abbrev blank (w : World) : World := w.alloc (.cells #[.string { data := #[] }, .string { data := #[] }] 40)

set_option maxRecDepth 100000 in
theorem rsplit_any (a : Option Addr) (l : List Int) (len cap : Nat) (w : World) (hb : Bytes w a l) (hL : l.length = len) (hmax : len ≤ 1000000) (hcap : len ≤ cap) (hcap2 : cap ≤ maxLen) :
    Calls Try.prog 19 #[.slice a len cap] w (Splitted l w) := by
  unfold maxLen at hcap2
  have hA := hb.1
  have b0 : Below w.heap.size w (blank w) := (Below.refl w.heap.size w).alloc (Nat.le_refl _) _
  have hb1 : Bytes (blank w) a l := hb.below b0 (Nat.le_refl _)
  have hb2 : Bytes (blank w).drew a l := hb1
  have R := Lib.hid (Blk.new w [.string { data := #[] }, .string { data := #[] }] 40)
  have HE : Hid (splitE l = if cutI l < l.length then (if nmB (l.take (cutI l)) = true then (if 256 < l.length - cutI l - 1 then 21 else 0) else 20) else 20) := Lib.hid rfl
  have HNo := Lib.hid (fun h => split_not (l := l) h)
  have HN1 : Hid (splitE l = 0 → splitN l = l.take (cutI l)) := Lib.hid fun h => by unfold splitN; rw [if_pos h]
  have HV1 : Hid (splitE l = 0 → splitV l = l.drop (cutI l + 1)) := Lib.hid fun h => by unfold splitV; rw [if_pos h]
  have HA := Lib.hid hA
  have HB := Lib.hid hb1
  have HL := Lib.hid hL
  unfold Splitted
  dsimp only [pv, blank] at *
  have HB0 := Lib.hid b0
  clear hb1 hb2 hL hA hb b0
  go_enter Try.func19, Try.ntmps19
  go_wp2
  go_loop [4] (fun i => ∃ k : Nat, k ≤ len ∧ i = .int .i64 (k : Int) ∧ Hid (∀ j, j < k → l.getD j 0 ≠ 61)) (fun i => len - (intOf i).toNat)
  case atStart => exact ⟨0, by omega, rfl, Lib.hid fun j hj => absurd hj (by omega)⟩
  case round =>
    obtain ⟨k, hk, rfl, hall⟩ := hrel
    rcases Nat.lt_or_ge k len with hlt | hge
    · obtain ⟨b, off, rfl, hblt, hc⟩ := HB.out.spot (by have := HL.out; omega)
      have hcell := hc k (by have := HL.out; omega)
      obtain ⟨c1, c2⟩ := HA.out.at_ k
      have hin : (k : Int) < (len : Int) := by omega
      by_cases h61 : l.getD k 0 = 61
      · have hcut : cutI l = k := cutI_is (by have := HL.out; omega) h61 hall.out
        rw [h61] at hcell
        clear c1 c2 h61 hall hc
        rw [hcut, HL.out, if_pos hlt] at HE
        rw [hcut] at HN1 HV1
        clear hcut
        have hs1 := cut_h (some ⟨b, off, none⟩) len cap k (by omega)
        have hs2 : ∀ w, (Instr.slice 44 (.slice (some ⟨b, off, none⟩) len cap) (some (.int .i64 ((k : Int) + 1))) none none).run Try.prog w = .ok (.slice (cutA (some ⟨b, off, none⟩) cap (k + 1)) (len - (k + 1)) (cap - (k + 1))) w := cut_l (some ⟨b, off, none⟩) len cap (k + 1) (by omega)
        have hv1 := ((OwnE.Bytes.cut HB.out cap 0 k (by rw [HL.out]; omega))).string cap k (by simp; have := HL.out; omega)
        have hv1' := ((OwnE.Bytes.cut HB.out.drew cap 0 k (by rw [HL.out]; omega))).string cap k (by simp; have := HL.out; omega)
        have hv2' := ((OwnE.Bytes.cut HB.out.drew cap (k + 1) (len - (k + 1)) (by rw [HL.out]; omega))).string (cap - (k + 1)) (len - (k + 1)) (by simp; have := HL.out; omega)
        rw [List.drop_zero] at hv1 hv1'
        rw [List.take_of_length_le (by simp; have := HL.out; omega)] at hv2'
        generalize cutA (some ⟨b, off, none⟩) cap 0 = A1 at *
        generalize cutA (some ⟨b, off, none⟩) cap (k + 1) = A2 at *
        have HN := Lib.hid fun w => rname_any (l.take k) (HA.out.take k) (by have := HL.out; simp; omega) w
        have f0 := R.out.frozen 0
        have f1 := R.out.frozen 1
        have g0 := R.out.cell (i := 0) rfl
        have g1 := R.out.cell (i := 1) rfl
        cases hnm : nmB (l.take k) with
        | false =>
          rw [hnm] at HN HE
          have hF : splitE l = 20 := HE.out
          obtain ⟨e1, e2⟩ := HNo.out (by rw [hF]; decide)
          have HR := Lib.hid (And.intro hF (And.intro e1 e2))
          clear HE hF e1 e2 hnm HNo HN1 HV1 hs2 hv2' hv1'
          change (convert _ _ _).run _ _ = .ok (.string (T (l.take k))) _ at hv1
          generalize T (l.take k) = S1 at *
          go_wp2_with (go_at_call 22; (with_reducible refine (HN.out _).mono ?_); rintro e w' ⟨rfl, rfl⟩)
          refine bodyPost_ret (v := .tuple #[.agg #[.string { data := #[] }, .string { data := #[] }], .int .i64 20]) (by simp [results_cell_tmp Try.results19, go_sem, Result.andThen]) rfl ⟨by rw [HR.out.1, HR.out.2.1, HR.out.2.2, ← T_nil], ?_⟩
          (repeat (first | (with_reducible exact HB0.out) | (with_reducible exact Below.refl _ _) | refine Below.setCell ?_ (by simp) _ | refine Below.alloc ?_ (by simp) _ | refine Below.drew ?_ | refine below_drewN ?_ _))
        | true =>
          rw [hnm] at HN HE
          rw [if_pos rfl] at HE
          change (convert _ _ _).run _ _ = .ok (.string (T (l.take k))) _ at hv1
          change (convert _ _ _).run _ _ = .ok (.string (T (l.take k))) _ at hv1'
          change (convert _ _ _).run _ _ = .ok (.string (T (l.drop (k + 1)))) _ at hv2'
          by_cases hv : 256 < len - k - 1
          · have hF : splitE l = 21 := HE.out.trans (if_pos hv)
            obtain ⟨e1, e2⟩ := HNo.out (by rw [hF]; decide)
            have HR := Lib.hid (And.intro hF (And.intro e1 e2))
            clear HE hF e1 e2 hnm HNo HN1 HV1 hs2 hv2' hv1'
            have hv2 : (256 : Int) < (len : Int) - (k : Int) - 1 := by omega
            generalize T (l.take k) = S1 at *
            go_wp2_with (go_at_call 22; (with_reducible refine (HN.out _).mono ?_); rintro e w' ⟨rfl, rfl⟩)
            refine bodyPost_ret (v := .tuple #[.agg #[.string { data := #[] }, .string { data := #[] }], .int .i64 21]) (by simp [results_cell_tmp Try.results19, go_sem, Result.andThen]) rfl ⟨by rw [HR.out.1, HR.out.2.1, HR.out.2.2, ← T_nil], ?_⟩
            (repeat (first | (with_reducible exact HB0.out) | (with_reducible exact Below.refl _ _) | refine Below.setCell ?_ (by simp) _ | refine Below.alloc ?_ (by simp) _ | refine Below.drew ?_ | refine below_drewN ?_ _))
          · have hF : splitE l = 0 := HE.out.trans (if_neg hv)
            have HR := Lib.hid (And.intro hF (And.intro (HN1.out hF) (HV1.out hF)))
            clear HE hF hnm HNo HN1 HV1
            have hv2 : ¬ (256 : Int) < (len : Int) - (k : Int) - 1 := by omega
            generalize hS1 : T (l.take k) = S1 at *
            generalize hS2 : T (l.drop (k + 1)) = S2 at *
            have HS1 := Lib.hid hS1
            have HS2 := Lib.hid hS2
            clear hS1 hS2
            go_wp2_with (go_at_call 22; (with_reducible refine (HN.out _).mono ?_); rintro e w' ⟨rfl, rfl⟩)
            go_region
            all_goals
              go_wp2
              refine bodyPost_ret (v := .tuple #[.agg #[.string S1, .string S2], .int .i64 0]) (by simp [results_cell_tmp Try.results19, go_sem, Result.andThen]) rfl ⟨by rw [HR.out.1, HR.out.2.1, HR.out.2.2, HS1.out, HS2.out], ?_⟩
              (repeat (first | (with_reducible exact HB0.out) | (with_reducible exact Below.refl _ _) | refine Below.setCell ?_ (by simp) _ | refine Below.alloc ?_ (by simp) _ | refine Below.drew ?_ | refine below_drewN ?_ _))
      · have h61b : (l.getD k 0 != 61) = true := by simpa using h61
        have hall2 := Lib.hid (fun j (hj : j < k + 1) => (by
          rcases Nat.lt_or_ge j k with h1 | h1
          · exact hall.out j h1
          · obtain rfl : j = k := by omega
            exact h61 : l.getD j 0 ≠ 61))
        clear hall hc h61
        generalize l.getD k 0 = c at *
        go_wp2
        go_round
        case rel => exact ⟨k + 1, by omega, by go_num, hall2⟩
        case measure => simp [intOf]; omega
    · obtain rfl : k = len := by omega
      have hcut : cutI l = l.length := cutI_none fun j hj => hall.out j (by have := HL.out; omega)
      rw [hcut, if_neg (Nat.lt_irrefl _)] at HE
      have hF : splitE l = 20 := HE.out
      obtain ⟨e1, e2⟩ := HNo.out (by rw [hF]; decide)
      have HR := Lib.hid (And.intro hF (And.intro e1 e2))
      clear HE hF e1 e2 hcut hall
      go_wp2
      refine bodyPost_ret (v := .tuple #[.agg #[.string { data := #[] }, .string { data := #[] }], .int .i64 20]) (by simp [results_cell_tmp Try.results19, go_sem, Result.andThen]) rfl ⟨by rw [HR.out.1, HR.out.2.1, HR.out.2.2, ← T_nil], ?_⟩
      (repeat (first | (with_reducible exact HB0.out) | (with_reducible exact Below.refl _ _) | refine Below.setCell ?_ (by simp) _ | refine Below.alloc ?_ (by simp) _ | refine Below.drew ?_ | refine below_drewN ?_ _))
end Go.Proofs.Ytpfkhcgeblihcaa.Fe

/-
  The chapter's examples.
-/
namespace Go.Proofs.Ytpfkhcgeblihcaa.Ff
open Go.ChangeShapes Go.WideShapes Go.ChangeAt Go.RowKit
open Bytes8 Blk8 Fa Fb Fc Fsp Fe
set_option linter.unusedVariables false
set_option maxRecDepth 100000
set_option linter.unusedSimpArgs false

abbrev cA : List Int := [65, 61, 98, 61, 99]
abbrev ca : List Int := [97, 61, 98]

end Go.Proofs.Ytpfkhcgeblihcaa.Ff

/-
  The order of pairs: plain; what Less and compare answer.
-/
namespace Go.Proofs.Ytpfkhcgeblihcaa.Fo
open Go.ChangeShapes Go.WideShapes Go.ChangeAt Go.RowKit
open Bytes8 Blk8 Fa Fb Fc
set_option linter.unusedVariables false
set_option maxRecDepth 100000
set_option linter.unusedSimpArgs false

theorem comp_nums : ∀ l m, AllB l → AllB m → decide (Lib.compareBytes (l.map fun n => n.toNat.toUInt8) (m.map fun n => n.toNat.toUInt8) < 0) = ltL l m
  | [], [], _, _ => rfl
  | [], _ :: _, _, _ => rfl
  | _ :: _, [], _, _ => rfl
  | x :: l, y :: m, hl, hm => by
    have ih := comp_nums l m (fun n hn => hl n (by simp [hn])) (fun n hn => hm n (by simp [hn]))
    have hx := hl x (by simp)
    have hy := hm y (by simp)
    simp only [List.map_cons, Lib.compareBytes, ltL, u8_lt hx hy, u8_lt hy hx]
    by_cases h1 : x < y
    · simp [h1]
    · by_cases h2 : y < x
      · simp [h1, h2]
      · simp only [if_neg h1, if_neg h2]; exact ih
/-- What compare answers. -/
def cmpI (n v m u : List Int) : Int := Lib.compareBytes (T (pay n v)).data.toList (T (pay m u)).data.toList
theorem cmpI_lt {n v m u : List Int} (hn : AllB n) (hv : AllB v) (hm : AllB m) (hu : AllB u) : decide (cmpI n v m u < 0) = lessP n v m u := by
  unfold cmpI lessP
  rw [← ByteArray.toList_eq, ← ByteArray.toList_eq, T_toList, T_toList]
  exact comp_nums _ _ (pay_all hn hv) (pay_all hm hu)
theorem blcompare_any (s t : ByteArray) (w : World) :
    Calls Try.prog 46 #[.string s, .string t] w fun e w' => e = .returned (.int .i64 (Lib.compareBytes s.data.toList t.data.toList)) ∧ w = w' := by
  go_enter Try.func46, Try.ntmps46
  go_wp2
  rw [run_callFunc_extern Try.func63 (by kernel_rfl) (by kernel_rfl) (by kernel_rfl) (e := Extern.BytealgCompare.compare) (by kernel_rfl), Lib.run_compareString]
  simp only [Result.andThen]
  rw [Oper.upon_value]
  go_wp2
  go_ret
  exact ⟨rfl, rfl⟩
theorem scompare_any (s t : ByteArray) (w : World) :
    Calls Try.prog 33 #[.string s, .string t] w fun e w' => e = .returned (.int .i64 (Lib.compareBytes s.data.toList t.data.toList)) ∧ w = w' := by
  have HC := Lib.hid fun w => blcompare_any s t w
  generalize Lib.compareBytes s.data.toList t.data.toList = c at *
  go_enter Try.func33, Try.ntmps33
  go_wp2_with (go_at_call 46; (with_reducible refine (HC.out _).mono ?_); rintro e w' ⟨rfl, rfl⟩)
  go_ret
  exact ⟨rfl, rfl⟩

theorem scompare_grew (s t : ByteArray) (w : World) :
    Calls Try.prog 33 #[.string s, .string t] w fun e w' => e = .returned (.int .i64 (Lib.compareBytes s.data.toList t.data.toList)) ∧ Grew w w' :=
  (scompare_any s t w).mono (by rintro e w' ⟨rfl, rfl⟩; exact ⟨rfl, Grew.refl _⟩)
theorem payload_grew (n v : List Int) (h : n.length + v.length ≤ 900000) (w : World) :
    Calls Try.prog 51 #[pv n v] w fun e w' => e = .returned (.string (T (pay n v))) ∧ Grew w w' :=
  (payload_any n v h w).mono (by rintro e w' ⟨rfl, rfl⟩; exact ⟨rfl, Grew.boxed _ _⟩)
end Go.Proofs.Ytpfkhcgeblihcaa.Fo

/-
  A pair of texts that came in by value; a slice of pairs that came in.
-/
namespace Go.Proofs.Ytpfkhcgeblihcaa.In8
open Go.ChangeShapes Go.WideShapes Go.ChangeAt Go.RowKit Go.Deep
open Bytes8 Blk8 Fa
set_option linter.unusedVariables false
set_option maxRecDepth 100000
set_option linter.unusedSimpArgs false

theorem text_of {s : ByteArray} : ∃ l, s = T l ∧ AllB l := ⟨num s, (T_num s).symm, num_all s⟩

theorem pair_of_trod {H : Type} {enc : TypeId × Value → H} {P : Program} {w : World} {base b0 : Nat} {held : Bool} {r : Reach} {spare : Nat → Bool} {t : TypeId} {f0 f1 : Field} {v : Value} {d : DataW H} {p : List MemPlace}
    (ht : P.underlying t = some (.struct #[f0, f1])) (hone : oneCellFields P #[f0, f1] = true) (hC : P.cellsOf t = 2) (h0 : P.underlying f0.type = some .string) (h1 : P.underlying f1.type = some .string)
    (hv : Value.okWide P w r b0 t v) (h : DataW.Trod enc P w base spare held t v d p) : ∃ n m, v = pv n m ∧ AllB n ∧ AllB m := by
  obtain ⟨v0, v1, y0, y1, k, rfl, _, _, t0, t1⟩ := Go.Joins.open_agg2 ht hone hC hv h
  obtain ⟨s0, e0, _⟩ := DataW.trod_string h0 t0
  obtain ⟨s1, e1, _⟩ := DataW.trod_string h1 t1
  injection e0 with e0
  injection e1 with e1
  subst e0; subst e1
  obtain ⟨n, rfl, hn⟩ := text_of (s := s0)
  obtain ⟨m, rfl, hm⟩ := text_of (s := s1)
  exact ⟨n, m, rfl, hn, hm⟩

/-- Pairs of texts that can be read from an address on. -/
def InPairs (w : World) (a : Option Addr) (len : Nat) (N V : Nat → List Int) : Prop :=
  ∀ i, i < len → ∃ b off, a = some ⟨b, off, none⟩ ∧ b < w.heap.size ∧ w.cell? ⟨b, off + i * 2, none⟩ = some (.string (T (N i))) ∧ w.cell? ⟨b, off + i * 2 + 1, none⟩ = some (.string (T (V i))) ∧ AllB (N i) ∧ AllB (V i) ∧ (N i).length ≤ maxLen ∧ (V i).length ≤ maxLen
theorem InPairs.below {w w' : World} {a : Option Addr} {len : Nat} {N V : Nat → List Int} (h : InPairs w a len N V) (hb : Below w.heap.size w w') : InPairs w' a len N V := fun i hi => by
  obtain ⟨b, off, e, h1, h2, h3, h4⟩ := h i hi
  exact ⟨b, off, e, Nat.lt_of_lt_of_le h1 hb.size, (hb.cell (p := ⟨b, off + i * 2, none⟩) h1).trans h2, (hb.cell (p := ⟨b, off + i * 2 + 1, none⟩) h1).trans h3, h4⟩

theorem pairs_of_trod {H : Type} {enc : TypeId × Value → H} {P : Program} {w : World} {base : Nat} {held : Bool} {t e : TypeId} {f0 f1 : Field} {a : Option Addr} {len cap : Nat} {d : DataW H} {p : List MemPlace}
    (ht : P.underlying t = some (.slice e)) (he : P.underlying e = some (.struct #[f0, f1])) (ce : P.cellsOf e = 2) (o0 : f0.offset = 0) (o1 : f1.offset = 1) (c0 : P.cellsOf f0.type = 1) (c1 : P.cellsOf f1.type = 1) (h0 : P.underlying f0.type = some .string) (h1 : P.underlying f1.type = some .string)
    (h : DataW.Trod enc P w base (fun _ => true) held t (.slice a len cap) d p) : ∃ N V, InPairs w a len N V ∧ len ≤ cap ∧ cap ≤ maxLen := by
  obtain ⟨fuel, hf⟩ := h
  rcases open_slice_pairs ht he ce o0 o1 c0 c1 hf with ⟨hcs, _⟩ | ⟨x, l, c, m, n, V0, V1, D0, D1, P0, P1, hcs, _, hl, hm, hmm, _, hel⟩
  · simp [Value.cells] at hcs
    obtain ⟨rfl, rfl, rfl⟩ := hcs
    exact ⟨fun _ => [], fun _ => [], fun i hi => absurd hi (by omega), Nat.le_refl _, by decide⟩
  · simp [Value.cells] at hcs
    obtain ⟨rfl, e1, e2⟩ := hcs
    subst e1 e2
    simp at hmm
    have each : ∀ i, i < cap → ∃ q : List Int × List Int, V0 i = .string (T q.1) ∧ V1 i = .string (T q.2) ∧ AllB q.1 ∧ AllB q.2 ∧ q.1.length ≤ maxLen ∧ q.2.length ≤ maxLen := by
      intro i hi
      obtain ⟨_, _, t0, t1⟩ := hel i (by omega)
      obtain ⟨s0, e0, _, z0⟩ := DataW.trod_string h0 t0
      obtain ⟨s1, e1, _, z1⟩ := DataW.trod_string h1 t1
      injection e0 with e0
      injection e1 with e1
      obtain ⟨n, rfl, hn⟩ := text_of (s := s0)
      obtain ⟨m, rfl, hm⟩ := text_of (s := s1)
      rw [T_size] at z0 z1
      exact ⟨(n, m), e0, e1, hn, hm, z0, z1⟩
    obtain ⟨q, hq⟩ := choose_lt each
    refine ⟨fun i => (q i).1, fun i => (q i).2, fun i hi => ?_, hl, hm⟩
    obtain ⟨hc0, hc1, _, _⟩ := hel i (by omega)
    obtain ⟨g0, g1, ha⟩ := hq i (by omega)
    obtain ⟨b, off, spot⟩ := x
    have hspot : spot = none := by
      obtain ⟨z0, _⟩ := hel 0 (by omega)
      simpa [Addr.add] using World.cell?_spot z0
    subst hspot
    have hlt := bounds_of_cell hc0
    rw [add_none] at hc0 hc1 hlt
    exact ⟨b, off, rfl, hlt, by rw [hc0, g0], by rw [Nat.add_assoc, hc1, g1], ha⟩
end Go.Proofs.Ytpfkhcgeblihcaa.In8

/-
  Words for rows of pairs of texts: what can be read from an address on; what a call gathers; plain: each once.
-/
namespace Go.Proofs.Ytpfkhcgeblihcaa.Pr8
open Go.ChangeShapes Go.WideShapes Go.ChangeAt Go.RowKit
open Bytes8 Blk8 Own8 OwnE Fa Fb Fc Fo In8
set_option linter.unusedVariables false
set_option maxRecDepth 100000
set_option linter.unusedSimpArgs false

abbrev PR := List Int × List Int
abbrev nil2 : PR := ([], [])
def okP (p : PR) : Prop := AllB p.1 ∧ AllB p.2 ∧ p.1.length ≤ maxLen ∧ p.2.length ≤ maxLen
def AllP (l : List PR) : Prop := ∀ p ∈ l, okP p
theorem AllP.at_ {l : List PR} (h : AllP l) (i : Nat) : okP (l.getD i nil2) := by
  by_cases hi : i < l.length
  · rw [List.getD_eq_getElem?_getD, List.getElem?_eq_getElem hi]; exact h _ (List.getElem_mem hi)
  · rw [List.getD_eq_getElem?_getD, List.getElem?_eq_none (by omega)]
    exact ⟨(fun x hx => by cases hx), (fun x hx => by cases hx), Nat.zero_le _, Nat.zero_le _⟩
theorem getD_mem' {l : List PR} {i : Nat} (hi : i < l.length) : l.getD i nil2 ∈ l := by
  rw [List.getD_eq_getElem?_getD, List.getElem?_eq_getElem hi]; exact List.getElem_mem hi
theorem mem_getD {l : List PR} {p : PR} (h : p ∈ l) : ∃ i, i < l.length ∧ l.getD i nil2 = p := by
  obtain ⟨i, hi, rfl⟩ := List.mem_iff_getElem.1 h
  exact ⟨i, hi, by rw [List.getD_eq_getElem?_getD, List.getElem?_eq_getElem hi]; rfl⟩
def cellsP : List PR → List Value
  | [] => []
  | p :: r => .string (T p.1) :: .string (T p.2) :: cellsP r
theorem cellsP_app : ∀ l m, cellsP (l ++ m) = cellsP l ++ cellsP m
  | [], _ => rfl
  | p :: l, m => by simp [cellsP, cellsP_app l m]
theorem cellsP_len : ∀ l, (cellsP l).length = l.length * 2
  | [] => rfl
  | p :: l => by simp [cellsP, cellsP_len l]; omega
theorem cellsP_at : ∀ (l : List PR) (i : Nat), i < l.length → (cellsP l)[i * 2]? = some (.string (T (l.getD i nil2).1)) ∧ (cellsP l)[i * 2 + 1]? = some (.string (T (l.getD i nil2).2))
  | p :: l, 0, _ => ⟨rfl, rfl⟩
  | p :: l, i + 1, h => by
    have := cellsP_at l i (by simpa using h)
    rw [show (i + 1) * 2 = i * 2 + 1 + 1 by omega]
    simpa [cellsP] using this
theorem cellsP_one : ∀ (l : List PR), ∀ u ∈ cellsP l, u.oneCell' = true
  | p :: l, u, h => by
    simp [cellsP] at h
    rcases h with rfl | rfl | h
    · rfl
    · rfl
    · exact cellsP_one l u h

def Prs (w : World) (a : Option Addr) (l : List PR) : Prop :=
  AllP l ∧ ∀ i, i < l.length → ∃ b off, a = some ⟨b, off, none⟩ ∧ b < w.heap.size ∧ w.cell? ⟨b, off + i * 2, none⟩ = some (.string (T (l.getD i nil2).1)) ∧ w.cell? ⟨b, off + i * 2 + 1, none⟩ = some (.string (T (l.getD i nil2).2))
theorem Prs.nil (w : World) (a : Option Addr) : Prs w a [] := ⟨(fun _ h => by cases h), fun i hi => absurd hi (by simp)⟩
theorem Prs.keptB {w w' : World} {a : Option Addr} {l : List PR} (h : Prs w a l) (hs : w.heap.size ≤ w'.heap.size) (hk : ∀ b off, a = some ⟨b, off, none⟩ → b < w.heap.size → w'.heap[b]? = w.heap[b]?) : Prs w' a l := by
  refine ⟨h.1, fun i hi => ?_⟩
  obtain ⟨b, off, e, h1, h2, h3⟩ := h.2 i hi
  have hb := hk b off e h1
  exact ⟨b, off, e, Nat.lt_of_lt_of_le h1 hs, (World.cell?_of_block (a := ⟨b, off + i * 2, none⟩) hb).trans h2, (World.cell?_of_block (a := ⟨b, off + i * 2 + 1, none⟩) hb).trans h3⟩
theorem Prs.below {w w' : World} {a : Option Addr} {l : List PR} (h : Prs w a l) (hb : Below w.heap.size w w') : Prs w' a l := h.keptB hb.size fun b _ _ h1 => hb.block b h1
theorem Prs.drewN {w : World} {a : Option Addr} {l : List PR} (h : Prs w a l) (n : Nat) : Prs (w.drewN n) a l := h
theorem Prs.of_in {w : World} {a : Option Addr} {len : Nat} {N V : Nat → List Int} (h : InPairs w a len N V) : Prs w a ((List.range len).map fun i => (N i, V i)) := by
  refine ⟨fun p hp => ?_, fun i hi => ?_⟩
  · obtain ⟨i, hi, rfl⟩ := List.mem_map.1 hp
    obtain ⟨_, _, _, _, _, _, h4⟩ := h i (List.mem_range.1 hi)
    exact h4
  · have hi' : i < len := by simpa using hi
    obtain ⟨b, off, e, h1, h2, h3, _⟩ := h i hi'
    refine ⟨b, off, e, h1, ?_, ?_⟩
    · simpa [hi'] using h2
    · simpa [hi'] using h3
theorem Prs.eq_nil {w : World} {l : List PR} (h : Prs w none l) : l = [] := by
  rcases l with _ | ⟨p, r⟩
  · rfl
  · obtain ⟨b, off, e, _⟩ := h.2 0 (by simp)
    cases e

/-- Pairs that a call gathers. -/
def OwnP (w : World) (base : Nat) (A : Option Addr) (n c : Nat) (l : List PR) : Prop := AllP l ∧ l.length = n ∧ OwnE 40 2 w base A n c (cellsP l)
theorem OwnP.nil (w : World) (base : Nat) (h : base ≤ w.heap.size) : OwnP w base none 0 0 [] := ⟨(fun _ h => by cases h), rfl, OwnE.nil w base h⟩
theorem OwnP.prs {w : World} {base : Nat} {A : Option Addr} {n c : Nat} {l : List PR} (h : OwnP w base A n c l) : Prs w A l := by
  refine ⟨h.1, fun i hi => ?_⟩
  obtain ⟨h0, h1⟩ := cellsP_at l i hi
  have hl := cellsP_len l
  obtain ⟨g, e, hb, hlt, hc⟩ := h.2.2.cell (i := i * 2) (by omega)
  obtain ⟨g', e', _, _, hc'⟩ := h.2.2.cell (i := i * 2 + 1) (by omega)
  rw [e] at e'; simp at e'; subst e'
  exact ⟨g, 0, e, hlt, by rw [Nat.zero_add, hc, h0], by rw [Nat.zero_add, hc', h1]⟩
theorem OwnP.kept {w w' : World} {base B : Nat} {A : Option Addr} {n c : Nat} {l : List PR} (h : OwnP w base A n c l) (hb : Below B w w') (hB : w.heap.size ≤ B) : OwnP w' base A n c l := ⟨h.1, h.2.1, h.2.2.kept hb hB⟩
theorem OwnP.alloc {w : World} {base : Nat} {A : Option Addr} {n c : Nat} {l : List PR} (h : OwnP w base A n c l) (o : Obj) : OwnP (w.alloc o) base A n c l := ⟨h.1, h.2.1, h.2.2.alloc o⟩
theorem pairElt : Elt 40 26 2 32 (.agg #[.string { data := #[] }, .string { data := #[] }]) := ⟨Try.underlying26, by kernel_rfl, rfl, by decide⟩
theorem textElt : Elt 9 22 1 16 (.string { data := #[] }) := ⟨Try.underlying22, by kernel_rfl, rfl, by decide⟩

/-! ## plain: each once -/
def addU (acc : List PR) (p : PR) : List PR := if p ∈ acc then acc else acc ++ [p]
def ded (l : List PR) : List PR := l.foldl addU []
theorem take_step {l : List PR} {k : Nat} (hk : k < l.length) : l.take (k + 1) = l.take k ++ [l.getD k nil2] := by
  rw [List.take_add_one, List.getElem?_eq_getElem hk]
  simp [List.getElem?_eq_getElem hk]
theorem ded_step {l : List PR} {k : Nat} (hk : k < l.length) : ded (l.take (k + 1)) = addU (ded (l.take k)) (l.getD k nil2) := by
  rw [take_step hk]; unfold ded; rw [List.foldl_append]; rfl
theorem addU_mem (acc : List PR) (p q : PR) : q ∈ addU acc p ↔ q ∈ acc ∨ q = p := by
  unfold addU; split
  · constructor
    · exact Or.inl
    · rintro (h | rfl) <;> assumption
  · simp
theorem foldl_mem (l : List PR) : ∀ acc q, q ∈ l.foldl addU acc ↔ q ∈ acc ∨ q ∈ l := by
  induction l with
  | nil => simp
  | cons p l ih => intro acc q; rw [List.foldl_cons, ih, addU_mem]; simp [or_assoc]
theorem ded_mem (l : List PR) (q : PR) : q ∈ ded l ↔ q ∈ l := by unfold ded; rw [foldl_mem]; simp
theorem addU_nodup {acc : List PR} (h : acc.Nodup) (p : PR) : (addU acc p).Nodup := by
  unfold addU; split
  · exact h
  · rename_i hp
    rw [List.nodup_append]
    exact ⟨h, by simp, fun a ha b hb => by simp at hb; subst hb; rintro rfl; exact hp ha⟩
theorem foldl_nodup (l : List PR) : ∀ acc : List PR, acc.Nodup → (l.foldl addU acc).Nodup := by
  induction l with
  | nil => exact fun _ h => h
  | cons p l ih => exact fun acc h => ih _ (addU_nodup h p)
theorem ded_nodup (l : List PR) : (ded l).Nodup := foldl_nodup l [] (by simp)
theorem addU_len (acc : List PR) (p : PR) : acc.length ≤ (addU acc p).length := by unfold addU; split <;> simp
theorem foldl_len (l : List PR) : ∀ acc : List PR, acc.length ≤ (l.foldl addU acc).length := by
  induction l with
  | nil => exact fun _ => Nat.le_refl _
  | cons p l ih => exact fun acc => Nat.le_trans (addU_len acc p) (ih _)
theorem ded_le (l : List PR) (k : Nat) : (ded (l.take k)).length ≤ (ded l).length := by
  unfold ded
  conv => rhs; rw [← List.take_append_drop k l, List.foldl_append]
  exact foldl_len _ _
theorem ded_all {l : List PR} (h : AllP l) : AllP (ded l) := fun p hp => h p ((ded_mem l p).1 hp)
theorem AllP.take {l : List PR} (h : AllP l) (k : Nat) : AllP (l.take k) := fun p hp => h p (List.mem_of_mem_take hp)
end Go.Proofs.Ytpfkhcgeblihcaa.Pr8

/-
  Loops that only read pairs: Index, Contains, SamePairs, the document's Within.
-/
namespace Go.Proofs.Ytpfkhcgeblihcaa.Pa8
open Go.ChangeShapes Go.WideShapes Go.ChangeAt Go.RowKit
open Bytes8 Blk8 Own8 OwnE Fa Fb Fc Fo In8 Pr8
set_option linter.unusedVariables false
set_option maxRecDepth 100000
set_option linter.unusedSimpArgs false

theorem pair_eq (p q : PR) : decide (p.1 = q.1 ∧ p.2 = q.2) = decide (p = q) := by
  obtain ⟨a, b⟩ := p; obtain ⟨c, d⟩ := q
  simp [Prod.mk.injEq]
theorem eql_pr {p q : PR} (hp : okP p) (hq : okP q) (w : World) : (binOp .eql 40 (.agg #[.string (T p.1), .string (T p.2)]) (.agg #[.string (T q.1), .string (T q.2)])).run Try.prog w = .ok (.bool (decide (p = q))) w := by
  rw [← pair_eq]; exact eql_pair hp.1 hp.2.1 hq.1 hq.2.1 w
theorem neq_pr {p q : PR} (hp : okP p) (hq : okP q) (w : World) : (binOp .neq 40 (.agg #[.string (T p.1), .string (T p.2)]) (.agg #[.string (T q.1), .string (T q.2)])).run Try.prog w = .ok (.bool (!decide (p = q))) w := by
  rw [← pair_eq]; exact neq_pair hp.1 hp.2.1 hq.1 hq.2.1 w
theorem two_cells {w : World} {g : Nat} {a b : Value} {T : TypeId} (h : Blk w g [a, b] T) : w.cell? ⟨g, 0, none⟩ = some a ∧ w.cell? ⟨g, 1, none⟩ = some b :=
  ⟨h.cell (i := 0) rfl, h.cell (i := 1) rfl⟩

end Go.Proofs.Ytpfkhcgeblihcaa.Pa8

/-
  Pairs that may be, sorted: what the library's sort makes of them (its contract: the shelf's).
-/
namespace Go.Proofs.Ytpfkhcgeblihcaa.Ps8
open Go.ChangeShapes Go.WideShapes Go.ChangeAt Go.RowKit Go.Lib
open Bytes8 Blk8 Own8 OwnE Fa Fb Fc Fo In8 Pr8
set_option linter.unusedVariables false
set_option maxRecDepth 100000
set_option linter.unusedSimpArgs false

/-- Of pairs that may be: unlike ones have unlike payloads. -/
theorem pay_inj {n v m u : List Int} (h : flawI n v = 0) (k : flawI m u = 0) (e : pay n v = pay m u) : n = m ∧ v = u := by
  obtain ⟨_, h1, h2⟩ := split_pay h
  obtain ⟨_, k1, k2⟩ := split_pay k
  rw [e] at h1 h2
  exact ⟨h1.symm.trans k1, h2.symm.trans k2⟩
def okR (p : PR) : Prop := AllB p.1 ∧ AllB p.2 ∧ flawI p.1 p.2 = 0
def ltP (p q : PR) : Bool := lessP p.1 p.2 q.1 q.2
theorem ltP_total {p q : PR} (hp : okR p) (hq : okR q) (h : ltP p q = false) (k : ltP q p = false) : p = q := by
  obtain ⟨e1, e2⟩ := pay_inj hp.2.2 hq.2.2 (ltL_total _ _ h k)
  exact Prod.ext e1 e2
/-- The row sorted. -/
def sortP (l : List PR) : List PR := l.mergeSort fun x y => !ltP y x
theorem sortP_perm (l : List PR) : (sortP l).Perm l := List.mergeSort_perm _ _
theorem sortP_mem (l : List PR) (p : PR) : p ∈ sortP l ↔ p ∈ l := (sortP_perm l).mem_iff
theorem sortP_len (l : List PR) : (sortP l).length = l.length := (sortP_perm l).length_eq
theorem own_block {w : World} {base n c g : Nat} {l : List PR} (h : OwnP w base (some ⟨g, 0, none⟩) n c l) :
    base ≤ g ∧ ∃ cur : Array Value, w.heap[g]? = some (.cells cur 40 (0, 0)) ∧ cur.toList.take (n * 2) = cellsP l := by
  rcases h.2.2.2.2 with ⟨he, _⟩ | ⟨g', cap, cur, he, hb, hg, _, _, _, ht⟩
  · cases he
  · injection he with e1 e2 e3
    simp at e1
    subst e1
    exact ⟨hb, cur, hg, ht⟩
end Go.Proofs.Ytpfkhcgeblihcaa.Ps8

/-
  Loops that only read pairs: Index, Contains, SamePairs, the document's Within.
-/
namespace Go.Proofs.Ytpfkhcgeblihcaa.Pa8
open Go.ChangeShapes Go.WideShapes Go.ChangeAt Go.RowKit
open Bytes8 Blk8 Own8 OwnE Fa Fb Fc Fo In8 Pr8
set_option linter.unusedVariables false
set_option maxRecDepth 100000
set_option linter.unusedSimpArgs false

/-! ## SamePairs -/
end Go.Proofs.Ytpfkhcgeblihcaa.Pa8

/-
  What List answers.
-/
namespace Go.Proofs.Ytpfkhcgeblihcaa.Pl8
open Go.ChangeShapes Go.WideShapes Go.ChangeAt Go.RowKit
open Bytes8 Blk8 Own8 OwnE Fa Fb Fc Fo In8 Pr8 Ps8
set_option linter.unusedVariables false
set_option maxRecDepth 100000
set_option linter.unusedSimpArgs false

/-- The code of the first pair that has one. -/
def codeL : List PR → Int
  | [] => 0
  | p :: r => if flawI p.1 p.2 = 0 then codeL r else flawI p.1 p.2
theorem codeL_at : ∀ (l : List PR) (k : Nat), k < l.length → (∀ j, j < k → flawI (l.getD j nil2).1 (l.getD j nil2).2 = 0) → flawI (l.getD k nil2).1 (l.getD k nil2).2 ≠ 0 → codeL l = flawI (l.getD k nil2).1 (l.getD k nil2).2
  | p :: l, 0, _, _, h => by
    unfold codeL; rw [if_neg (by simpa using h)]; rfl
  | p :: l, k + 1, hk, hj, h => by
    unfold codeL
    rw [if_pos (by simpa using hj 0 (by omega))]
    exact codeL_at l k (by simpa using hk) (fun j hjk => by simpa using hj (j + 1) (by omega)) (by simpa using h)
theorem codeL_zero : ∀ (l : List PR), (∀ p ∈ l, flawI p.1 p.2 = 0) → codeL l = 0
  | [], _ => rfl
  | p :: l, h => by unfold codeL; rw [if_pos (h p (by simp))]; exact codeL_zero l fun q hq => h q (by simp [hq])
def listE (l : List PR) : Int := if l = [] then 16 else if codeL l = 0 then (if (ded l).length ≤ 16 then 0 else 21) else codeL l
def listL (l : List PR) : List PR := if listE l = 0 then sortP (ded l) else []
def Listed (l : List PR) (w : World) (e : Ending) (w' : World) : Prop := ∃ A c, e = .returned (.tuple #[.slice A (listL l).length c, .int .i64 (listE l)]) ∧ Prs w' A (listL l) ∧ Below w.heap.size w w'
theorem listed_none {l : List PR} {w w' : World} {x : Int} (h : listE l = x) (hx : x ≠ 0) (hb : Below w.heap.size w w') : Listed l w (.returned (.tuple #[.slice none 0 0, .int .i64 x])) w' := by
  have hL : listL l = [] := if_neg (by rw [h]; exact hx)
  unfold Listed
  rw [hL, h]
  exact ⟨none, 0, rfl, Prs.nil _ _, hb⟩
/-- .. where the row is a new one. -/
def ListedN (l : List PR) (w : World) (e : Ending) (w' : World) : Prop := ∃ A c, e = .returned (.tuple #[.slice A (listL l).length c, .int .i64 (listE l)]) ∧ Prs w' A (listL l) ∧ Below w.heap.size w w' ∧ ∀ b off, A = some ⟨b, off, none⟩ → 0 < (listL l).length → w.heap.size ≤ b
theorem ListedN.old {l : List PR} {w : World} {e : Ending} {w' : World} (h : ListedN l w e w') : Listed l w e w' := by
  obtain ⟨A, c, h1, h2, h3, _⟩ := h
  exact ⟨A, c, h1, h2, h3⟩
theorem listedN_none {l : List PR} {w w' : World} {x : Int} (h : listE l = x) (hx : x ≠ 0) (hb : Below w.heap.size w w') : ListedN l w (.returned (.tuple #[.slice none 0 0, .int .i64 x])) w' := by
  have hL : listL l = [] := if_neg (by rw [h]; exact hx)
  unfold ListedN
  rw [hL, h]
  exact ⟨none, 0, rfl, Prs.nil _ _, hb, fun b off e => by cases e⟩
theorem own_some {w : World} {base n c : Nat} {A : Option Addr} {l : List PR} (h : OwnP w base A n c l) (hn : 0 < n) : ∃ g, A = some ⟨g, 0, none⟩ := by
  rcases h.2.2.2.2 with ⟨he, h0⟩ | ⟨g', cap, cur, he, _⟩
  · omega
  · injection he with e1 e2 e3
    exact ⟨g', e1⟩

end Go.Proofs.Ytpfkhcgeblihcaa.Pl8
