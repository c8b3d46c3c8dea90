/-
  What Right, Join, Split, and the document's own, answer.
-/
import Derived.Test.YtmimfojlcihhaaaFb
import Derived.Laws.IdiomStrings
namespace Go.Proofs.Ytmimfojlcihhaaa.Fc
open Go.ChangeShapes Go.WideShapes Go.ChangeAt Go.RowKit
open Bytes8 Blk8 Fa Fb
set_option linter.unusedVariables false
set_option linter.unusedSimpArgs false

theorem right_any (n v : List Int) (hn : AllB n) (hv : AllB v) (w : World) :
    Calls Try.prog 14 #[pv n v] w fun e w' => e = .returned (.bool (decide (flawI n v = 0))) ∧ Grew w w' := by
  have HF := Lib.hid fun w => flaw_any n v hn hv w
  have hG := (Grew.boxed w (box n v)).alloc (box n v)
  dsimp only [pv, box] at *
  generalize T n = S at *
  generalize T v = V at *
  generalize flawI n v = F at *
  go_enter Try.func14, Try.ntmps14
  go_wp2_with (go_at_call 31; (with_reducible refine (HF.out _).mono ?_); rintro e w' ⟨rfl, rfl⟩)
  go_ret
  exact ⟨ret_bool rfl, hG⟩

theorem rright_any (n v : List Int) (hn : AllB n) (hv : AllB v) (hmax : n.length ≤ 9223372036854775807) (w : World) :
    Calls Try.prog 15 #[pv n v] w fun e w' => e = .returned (.bool (decide (flawI n v = 0))) ∧ Grew w w' := by
  have HN := Lib.hid fun w => rname_any n hn hmax w
  have hsz := T_size v
  have HF := Lib.hid (show flawI n v = if nmB n = true then (if 256 < v.length then 21 else 0) else 1 from rfl)
  have hG := Grew.boxed w (box n v)
  dsimp only [pv, box] at *
  generalize T n = S at *
  generalize T v = V at *
  generalize v.length = lv at *
  generalize flawI n v = F at *
  cases hnm : nmB n with
  | false =>
    rw [hnm] at HN HF
    have hF : F = 1 := HF.out
    subst hF
    clear hnm HF
    go_enter Try.func15, Try.ntmps15
    go_wp2_with (go_at_call 17; (with_reducible refine (HN.out _).mono ?_); rintro e w' ⟨rfl, rfl⟩)
    go_ret
    exact ⟨ret_bool rfl, hG⟩
  | true =>
    rw [hnm] at HN HF
    clear hnm
    by_cases h : 256 < lv
    · have hF : F = 21 := HF.out.trans (by simp [h])
      subst hF
      clear HF
      have hd : decide ((lv : Int) ≤ 256) = false := by simp; omega
      go_enter Try.func15, Try.ntmps15
      go_wp2_with (go_at_call 17; (with_reducible refine (HN.out _).mono ?_); rintro e w' ⟨rfl, rfl⟩)
      go_ret
      exact ⟨ret_bool (by simp), hG⟩
    · have hF : F = 0 := HF.out.trans (by simp [h])
      subst hF
      clear HF
      have hd : decide ((lv : Int) ≤ 256) = true := by simp; omega
      go_enter Try.func15, Try.ntmps15
      go_wp2_with (go_at_call 17; (with_reducible refine (HN.out _).mono ?_); rintro e w' ⟨rfl, rfl⟩)
      go_ret
      exact ⟨ret_bool (by simp), hG⟩

theorem add_run (a b : List Int) (h : a.length + b.length ≤ 1000000) (w : World) : (Op.stringOp .add (T a) (T b)).run Try.prog w = .ok (.string (T (a ++ b))) w := by
  rw [run_string_add_sum w _ _ (by rw [T_size, T_size]; omega), T_app]

theorem payload_any (n v : List Int) (hmax : n.length + v.length ≤ 900000) (w : World) :
    Calls Try.prog 32 #[pv n v] w fun e w' => e = .returned (.string (T (pay n v))) ∧ w.alloc (box n v) = w' := by
  have h1 := add_run n [61] (by simp; omega)
  have h2 := add_run (n ++ [61]) v (by simp; omega)
  rw [← T_one] at h1
  have hp : pay n v = n ++ [61] ++ v := rfl
  rw [← hp] at h2
  dsimp only [pv, box] at *
  generalize T n = S at *
  generalize T v = V at *
  generalize T (n ++ [61]) = S1 at *
  generalize T (pay n v) = S2 at *
  clear hp
  go_enter Try.func32, Try.ntmps32
  go_wp2
  go_ret
  exact ⟨rfl, rfl⟩
theorem rpayload_any (n v : List Int) (hmax : n.length + v.length ≤ 900000) (w : World) :
    Calls Try.prog 19 #[pv n v] w fun e w' => e = .returned (.string (T (pay n v))) ∧ w.alloc (box n v) = w' := by
  have h1 := add_run n [61] (by simp; omega)
  have h2 := add_run (n ++ [61]) v (by simp; omega)
  rw [← T_one] at h1
  have hp : pay n v = n ++ [61] ++ v := rfl
  rw [← hp] at h2
  dsimp only [pv, box] at *
  generalize T n = S at *
  generalize T v = V at *
  generalize T (n ++ [61]) = S1 at *
  generalize T (pay n v) = S2 at *
  clear hp
  go_enter Try.func19, Try.ntmps19
  go_wp2
  go_ret
  exact ⟨rfl, rfl⟩

/-! ## joining -/
def joinL (n v : List Int) : List Int := if flawI n v = 0 then pay n v else []
theorem joinL_all {n v : List Int} (hn : AllB n) (hv : AllB v) : AllB (joinL n v) := by
  unfold joinL; split
  · exact pay_all hn hv
  · intro x hx; cases hx
theorem flaw_len {n v : List Int} (h : flawI n v = 0) : n.length ≤ 64 ∧ v.length ≤ 256 := by
  unfold flawI at h
  by_cases hn : nmB n = true
  · rw [if_pos hn] at h
    have := (nmB_len hn).2
    by_cases hv : 256 < v.length
    · rw [if_pos hv] at h; cases h
    · omega
  · rw [if_neg hn] at h; cases h
/-- '[]byte(s)': bytes of the call's own. -/
theorem text_conv (l : List Int) (hA : AllB l) : ∃ (cf : World → Nat) (mk : World → World), ∀ w,
    (convert 9 22 (.string (T l))).run Try.prog w = .ok (.slice (some ⟨w.heap.size, 0, none⟩) l.length (cf w)) (mk w) ∧ (∀ g, w.heap.size = g → Bytes (mk w) (some ⟨g, 0, none⟩) l) ∧ Grew w (mk w) := by
  refine ⟨fun w => grownCap w (T l).size 0 5, fun w => w.drew.alloc (.cells (bytesRow (T l) (grownCap w (T l).size 0 5)) 5 ((bytesRow (T l) (grownCap w (T l).size 0 5)).size, (bytesRow (T l) (grownCap w (T l).size 0 5)).size + 1)), fun w => ⟨?_, ?_, ?_⟩⟩
  · rw [run_bytes_of_string w 9 22 5 (T l) Try.underlying9 Try.underlying22 Try.underlying5, T_size]
  · rintro g rfl
    refine ⟨hA, fun i hi => ⟨w.heap.size, 0, rfl, by simp, ?_⟩⟩
    rw [Nat.zero_add]
    show (w.drew.alloc (.cells _ _ _)).cell? ⟨w.drew.heap.size, i, none⟩ = _
    rw [World.cell?_alloc_mark]
    have hd : i < (T l).data.size := by
      have := T_size l
      show i < (T l).size
      omega
    refine (bytesRow_at (T l) _ i hd).trans ?_
    have e1 : (T l).data[i] = (T l).toList[i]'(by rw [ByteArray.toList_eq]; simpa using hd) := by simp only [ByteArray.toList_eq]; rfl
    rw [e1]
    simp only [T_toList, List.getElem_map]
    have hv := hA l[i] (List.getElem_mem hi)
    have e3 : l.getD i 0 = l[i] := by simp [List.getElem?_eq_getElem hi]
    rw [e3]
    have e4 : (((l[i]).toNat.toUInt8.toNat : Nat) : Int) = l[i] := by simp; omega
    rw [e4]
  · exact ((Grew.refl w).drew).alloc _

def Joined (n v : List Int) (w : World) (e : Ending) (w' : World) : Prop := ∃ A c, e = .returned (.tuple #[.slice A (joinL n v).length c, .int .i64 (flawI n v)]) ∧ Bytes w' A (joinL n v) ∧ Grew w w'

theorem join_any (n v : List Int) (hn : AllB n) (hv : AllB v) (w : World) : Calls Try.prog 11 #[pv n v] w (Joined n v w) := by
  by_cases h : flawI n v = 0
  · have hL : joinL n v = pay n v := if_pos h
    have hlen := flaw_len h
    have HF := Lib.hid fun w => flaw_any n v hn hv w
    have HP := Lib.hid fun w => payload_any n v (by omega) w
    obtain ⟨cf, mk, hmk⟩ := text_conv (pay n v) (pay_all hn hv)
    have hcv := fun w => (hmk w).1
    have HB := Lib.hid fun w => (hmk w).2
    clear hmk
    unfold Joined
    rw [hL, h]
    rw [h] at HF
    dsimp only [pv, box] at *
    generalize T n = S at *
    generalize T v = V at *
    generalize T (pay n v) = P at *
    generalize pay n v = p at *
    generalize hpl : p.length = pl at *
    clear h hL hlen
    go_enter Try.func11, Try.ntmps11
    go_wp2_with (first | (go_at_call 31; (with_reducible refine (HF.out _).mono ?_); rintro e w' ⟨rfl, rfl⟩) | (go_at_call 32; (with_reducible refine (HP.out _).mono ?_); rintro e w' ⟨rfl, rfl⟩))
    go_ret2
    refine ⟨_, _, rfl, (HB.out _).1 _ (by simp), ?_⟩
    exact (((Grew.refl w).alloc _).alloc _).alloc _ |>.trans (HB.out _).2
  · have hL : joinL n v = [] := if_neg h
    have HF := Lib.hid fun w => flaw_any n v hn hv w
    have hG := (Grew.boxed w (box n v)).alloc (box n v)
    unfold Joined
    rw [hL]
    dsimp only [pv, box] at *
    generalize T n = S at *
    generalize T v = V at *
    generalize flawI n v = F at *
    have hne : (F == 0) = false := by simpa using h
    clear hL h
    go_enter Try.func11, Try.ntmps11
    go_wp2_with (go_at_call 31; (with_reducible refine (HF.out _).mono ?_); rintro e w' ⟨rfl, rfl⟩)
    go_ret2
    exact ⟨none, 0, rfl, Bytes.nil _ _, hG⟩

theorem rjoin_any (n v : List Int) (hn : AllB n) (hv : AllB v) (hmax : n.length ≤ 9223372036854775807) (w : World) : Calls Try.prog 12 #[pv n v] w (Joined n v w) := by
  have HN := Lib.hid fun w => rname_any n hn hmax w
  have hsz := T_size v
  by_cases h : flawI n v = 0
  · have hL : joinL n v = pay n v := if_pos h
    have hlen := flaw_len h
    have hnm : nmB n = true := by
      cases hnm : nmB n with
      | true => rfl
      | false => unfold flawI at h; rw [hnm] at h; cases h
    have HP := Lib.hid fun w => rpayload_any n v (by omega) w
    obtain ⟨cf, mk, hmk⟩ := text_conv (pay n v) (pay_all hn hv)
    have hcv := fun w => (hmk w).1
    have HB := Lib.hid fun w => (hmk w).2
    clear hmk
    unfold Joined
    rw [hL, h]
    rw [hnm] at HN
    have hv256 : ¬ (256 : Int) < (v.length : Int) := by omega
    dsimp only [pv, box] at *
    generalize T n = S at *
    generalize T v = V at *
    generalize T (pay n v) = P at *
    generalize pay n v = p at *
    generalize hpl : p.length = pl at *
    generalize v.length = vl at *
    clear h hL hlen hnm
    go_enter Try.func12, Try.ntmps12
    go_wp2_with (first | (go_at_call 17; (with_reducible refine (HN.out _).mono ?_); rintro e w' ⟨rfl, rfl⟩) | (go_at_call 19; (with_reducible refine (HP.out _).mono ?_); rintro e w' ⟨rfl, rfl⟩))
    go_ret2
    refine ⟨_, _, rfl, (HB.out _).1 _ (by simp), ?_⟩
    exact ((Grew.refl w).alloc _).alloc _ |>.trans (HB.out _).2
  · have hL : joinL n v = [] := if_neg h
    have hG := Grew.boxed w (box n v)
    unfold Joined
    rw [hL]
    cases hnm : nmB n with
    | false =>
      have hF : flawI n v = 1 := by unfold flawI; rw [hnm]; rfl
      rw [hF]
      rw [hnm] at HN
      dsimp only [pv, box] at *
      generalize T n = S at *
      generalize T v = V at *
      clear hL h hF hnm
      go_enter Try.func12, Try.ntmps12
      go_wp2_with (go_at_call 17; (with_reducible refine (HN.out _).mono ?_); rintro e w' ⟨rfl, rfl⟩)
      go_ret2
      exact ⟨none, 0, rfl, Bytes.nil _ _, hG⟩
    | true =>
      have h256 : 256 < v.length := by
        rcases Nat.lt_or_ge 256 v.length with h1 | h1
        · exact h1
        · exact absurd (by unfold flawI; rw [if_pos hnm, if_neg (by omega)]) h
      have hF : flawI n v = 21 := by unfold flawI; rw [if_pos hnm, if_pos h256]
      rw [hF]
      rw [hnm] at HN
      dsimp only [pv, box] at *
      generalize T n = S at *
      generalize T v = V at *
      generalize v.length = vl at *
      clear hL h hF hnm
      go_enter Try.func12, Try.ntmps12
      go_wp2_with (go_at_call 17; (with_reducible refine (HN.out _).mono ?_); rintro e w' ⟨rfl, rfl⟩)
      go_ret2
      exact ⟨none, 0, rfl, Bytes.nil _ _, hG⟩
end Go.Proofs.Ytmimfojlcihhaaa.Fc
