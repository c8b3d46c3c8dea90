/-
  A text read part by part: the program's reader.
-/
import Derived.Test.YtpfkhcgeblihcaaDoorKuk
import Derived.Test.YtpfkhcgeblihcaaDoorKb
namespace Go.Proofs.YtpfkhcgeblihcaaDoor.Kul
open Go.ChangeShapes Go.WideShapes Go.ChangeAt Go.RowKit
open Bytes8 Blk8 Own8 Fa Kua Kub Kuc Kud Kui Kuj Kuk
open Seq8 (KeptB Blk.keptB)
set_option linter.unusedVariables false
set_option linter.unusedSimpArgs false
set_option maxRecDepth 100000

theorem str_from (l : List Int) (m : Nat) (hm : m ≤ l.length) (w : World) : (Instr.slice 9 (.string (T l)) (some (.int .i64 (m : Int))) none none).run Tryd.prog w = .ok (.string (T (l.drop m))) w := by
  have hsz := T_size l
  rw [run_slice_string_from_if w 9 (T l) .i64 _ Tryd.underlying9, if_pos (by rw [hsz]; omega), T_cut, hsz, Int.toNat_natCast, List.take_of_length_le (by rw [List.length_drop]; omega)]
theorem str_to (l : List Int) (m : Nat) (hm : m ≤ l.length) (w : World) : (Instr.slice 9 (.string (T l)) none (some (.int .i64 (m : Int))) none).run Tryd.prog w = .ok (.string (T (l.take m))) w := by
  have hsz := T_size l
  rw [run_slice_string_to_if w 9 (T l) .i64 _ Tryd.underlying9, if_pos (by rw [hsz]; omega), T_cut, Int.toNat_natCast]
  rfl
theorem pre_take {p l : List Int} (h : p.length ≤ l.length) : p.isPrefixOf l = decide (l.take p.length = p) := by
  by_cases hp : l.take p.length = p
  · rw [decide_eq_true hp, List.isPrefixOf_iff_prefix]
    exact ⟨l.drop p.length, by conv => lhs; lhs; rw [← hp]
                               exact List.take_append_drop _ _⟩
  · rw [decide_eq_false hp]
    cases h1 : p.isPrefixOf l with
    | false => rfl
    | true =>
      obtain ⟨t, rfl⟩ := List.isPrefixOf_iff_prefix.1 h1
      exact absurd (by simp) hp
theorem pre_long {p l : List Int} (h : ¬ p.length ≤ l.length) : p.isPrefixOf l = false := by
  cases h1 : p.isPrefixOf l with
  | false => rfl
  | true =>
    obtain ⟨t, rfl⟩ := List.isPrefixOf_iff_prefix.1 h1
    exact absurd (by simp) h
set_option maxHeartbeats 2000000 in
theorem has_any (l p : List Int) (hl : AllB l) (hp : AllB p) (w : World) : Calls Tryd.prog 67 #[.string (T l), .string (T p)] w fun e w' => e = .returned (.bool (p.isPrefixOf l)) ∧ w = w' := by
  have s1 := T_size l
  have s2 := T_size p
  by_cases h : p.length ≤ l.length
  · have E := Lib.hid (pre_take h)
    have hs := fun W => str_to l p.length h W
    have hb := T_beq (hl.take p.length) hp
    generalize decide (l.take p.length = p) = z at *
    obtain ⟨n, hn⟩ : ∃ n, l.length = n := ⟨_, rfl⟩
    obtain ⟨m, hm⟩ : ∃ m, p.length = m := ⟨_, rfl⟩
    rw [hm] at h hs s2 hb
    rw [hn] at h s1
    have hi : (m : Int) ≤ (n : Int) := by omega
    rw [E.out]
    clear hm hn E hl hp
    generalize T (l.take m) = X at *
    generalize T l = S at *
    generalize T p = R at *
    go_enter Tryd.func67, Tryd.ntmps67
    go_wp2
    go_ret
    exact ⟨rfl, rfl⟩
  · have E := Lib.hid (pre_long h)
    obtain ⟨n, hn⟩ : ∃ n, l.length = n := ⟨_, rfl⟩
    obtain ⟨m, hm⟩ : ∃ m, p.length = m := ⟨_, rfl⟩
    rw [hm] at h s2
    rw [hn] at h s1
    have hi : ¬ (m : Int) ≤ (n : Int) := by omega
    rw [E.out]
    clear hm hn E hl hp
    generalize T l = S at *
    generalize T p = R at *
    go_enter Tryd.func67, Tryd.ntmps67
    go_wp2
    go_ret
    exact ⟨rfl, rfl⟩
theorem cut0_any (l p : List Int) (hl : AllB l) (hp : AllB p) (w : World) : Calls Tryd.prog 70 #[.string (T l), .string (T p)] w fun e w' => e = .returned (.tuple #[.string (T (cutP p l)), .bool (p.isPrefixOf l)]) ∧ w = w' := by
  have s2 := T_size p
  have H := Lib.hid fun W => has_any l p hl hp W
  cases h : p.isPrefixOf l with
  | true =>
    have E := Lib.hid (show cutP p l = l.drop p.length by unfold cutP; rw [if_pos h])
    have hlen : p.length ≤ l.length := by
      obtain ⟨t, rfl⟩ := List.isPrefixOf_iff_prefix.1 h
      simp
    have hs := fun W => str_from l p.length hlen W
    rw [h] at H
    obtain ⟨m, hm⟩ : ∃ m, p.length = m := ⟨_, rfl⟩
    rw [hm] at hs s2 E
    rw [E.out]
    clear hm E hl hp h hlen
    generalize T (l.drop m) = X at *
    generalize T l = S at *
    generalize T p = R at *
    go_enter Tryd.func70, Tryd.ntmps70
    go_wp2_with (go_at_call 67; (with_reducible refine (H.out _).mono ?_); rintro e w' ⟨rfl, rfl⟩)
    go_ret2
    exact ⟨rfl, rfl⟩
  | false =>
    have E := Lib.hid (show cutP p l = l by unfold cutP; rw [if_neg (by rw [h]; decide)])
    rw [h] at H
    rw [E.out]
    clear E hl hp h
    generalize T l = S at *
    generalize T p = R at *
    go_enter Tryd.func70, Tryd.ntmps70
    go_wp2_with (go_at_call 67; (with_reducible refine (H.out _).mono ?_); rintro e w' ⟨rfl, rfl⟩)
    go_ret2
    exact ⟨rfl, rfl⟩
theorem cut_any (l p : List Int) (hl : AllB l) (hp : AllB p) (w : World) : Calls Tryd.prog 56 #[.string (T l), .string (T p)] w fun e w' => e = .returned (.tuple #[.string (T (cutP p l)), .bool (p.isPrefixOf l)]) ∧ w = w' := by
  have H := Lib.hid fun W => cut0_any l p hl hp W
  generalize T (cutP p l) = X at *
  generalize p.isPrefixOf l = z at *
  generalize T l = S at *
  generalize T p = R at *
  go_enter Tryd.func56, Tryd.ntmps56
  go_wp2_with (go_at_call 70; (with_reducible refine (H.out _).mono ?_); rintro e w' ⟨rfl, rfl⟩)
  go_ret2
  exact ⟨rfl, rfl⟩

/-- The reader in memory. -/
abbrev Rd (w : World) (g : Nat) (rest : List Int) (ok : Bool) : Prop := Blk w g [.string (T rest), .bool ok] 57
theorem cut_len {lab l : List Int} : (cutP lab l).length ≤ l.length := by
  unfold cutP; split
  · rw [List.length_drop]; omega
  · exact Nat.le_refl _
theorem cut_all {lab l : List Int} (h : AllB l) : AllB (cutP lab l) := by
  unfold cutP; split
  · exact h.drop _
  · exact h
theorem up_all {l : List Int} (h : AllB l) : AllB (upP l) := h.sub fun x hx => by rw [← up_from l]; exact List.mem_append_left _ hx
theorem from_all {l : List Int} (h : AllB l) : AllB (fromP l) := h.sub fun x hx => by rw [← up_from l]; exact List.mem_append_right _ hx
theorem pc_all {lab l : List Int} (h : AllB l) : AllB (pc lab l) := up_all (cut_all h)
theorem nx_all {lab l : List Int} (h : AllB l) : AllB (nx lab l) := from_all (cut_all h)
theorem up_len (l : List Int) : (upP l).length ≤ l.length ∧ (fromP l).length ≤ l.length := by
  have := congrArg List.length (up_from l)
  rw [List.length_append] at this
  omega
theorem pc_len {lab l : List Int} : (pc lab l).length ≤ l.length := Nat.le_trans (up_len _).1 cut_len
theorem nx_len {lab l : List Int} : (nx lab l).length ≤ l.length := Nat.le_trans (up_len _).2 cut_len
set_option maxHeartbeats 4000000 in
theorem part_any (lab rest : List Int) (ok : Bool) (g : Nat) (w : World) (hA : AllB rest) (hlab : AllB lab) (hR : Rd w g rest ok) :
    Calls Tryd.prog 41 #[.pointer (some ⟨g, 0, none⟩), .string (T lab)] w fun e w' => e = .returned (.string (T (pc lab rest))) ∧ Rd w' g (nx lab rest) (ok && lab.isPrefixOf rest) ∧ KeptB w.heap.size g w w' := by
  have HC := Lib.hid fun W => cut_any rest lab hA hlab W
  have hA2 := cut_all (lab := lab) hA
  have HI := Lib.hid fun W => index_any (cutP lab rest) 59 hA2 (by decide) W
  have hsz := T_size (cutP lab rest)
  have hcs := idx_semi (cutP lab rest)
  have hcp := cut_parts (cutP lab rest)
  have hul := (up_len (cutP lab rest)).1
  have HF := Lib.hid fun W => str_from (cutP lab rest) (upP (cutP lab rest)).length hul W
  have HT := Lib.hid fun W => str_to (cutP lab rest) (upP (cutP lab rest)).length hul W
  rw [hcp.1] at HT
  rw [hcp.2] at HF
  have HL : Hid (upP (cutP lab rest) = cutP lab rest → (upP (cutP lab rest)).length = (cutP lab rest).length) := Lib.hid fun h => by rw [h]
  unfold pc nx
  generalize lab.isPrefixOf rest = z at *
  generalize cutP lab rest = l at *
  obtain ⟨n, hn⟩ : ∃ n, l.length = n := ⟨_, rfl⟩
  obtain ⟨m, hm⟩ : ∃ m, (upP l).length = m := ⟨_, rfl⟩
  rw [hn] at hsz hcs HL
  rw [hm] at hcs HF HT HL
  have c0 := hR.cell (i := 0) rfl
  have c1 := hR.cell (i := 1) rfl
  have f0 := hR.frozen 0
  have f1 := hR.frozen 1
  have hs := HF.out
  have ht := HT.out
  have P1 := Lib.hid (show Rd ((w.setCell ⟨g, 0, none⟩ (.string (T (fromP l)))).setCell ⟨g, 1, none⟩ (.bool (ok && z))) g (fromP l) (ok && z) from (hR.set_ 0 (.string (T (fromP l)))).set_ 1 (.bool (ok && z)))
  have P2 := Lib.hid (show KeptB w.heap.size g w ((w.setCell ⟨g, 0, none⟩ (.string (T (fromP l)))).setCell ⟨g, 1, none⟩ (.bool (ok && z))) from ((KeptB.refl w.heap.size g w).setCell (p := (⟨g, 0, none⟩ : Addr)) (.inr rfl) _).setCell (p := (⟨g, 1, none⟩ : Addr)) (.inr rfl) _)
  rcases hcs with ⟨h1, h2, h3⟩ | ⟨h1, h2⟩
  · have hmn : m = n := HL.out h2
    subst hmn
    rw [h1] at HI
    clear h1 h2 h3 hcp hul hm hn HL hA2 hA hlab
    generalize T (fromP l) = X at *
    generalize T (upP l) = Y at *
    generalize T l = S at *
    go_enter Tryd.func41, Tryd.ntmps41
    cases ok
    all_goals
      go_wp2_with (first
        | (go_at_call 56; (with_reducible refine (HC.out _).mono ?_); rintro e w' ⟨rfl, rfl⟩)
        | (go_at_call 43; (with_reducible refine (HI.out _).mono ?_); rintro e w' ⟨rfl, rfl⟩))
      go_ret
      exact ⟨rfl, P1.out, P2.out⟩
  · rw [h1] at HI
    have hi0 : ¬ (m : Int) < 0 := by omega
    clear h1 h2 hcp hul hm hn HL hA2 hA hlab
    generalize T (fromP l) = X at *
    generalize T (upP l) = Y at *
    generalize T l = S at *
    go_enter Tryd.func41, Tryd.ntmps41
    cases ok
    all_goals
      go_wp2_with (first
        | (go_at_call 56; (with_reducible refine (HC.out _).mono ?_); rintro e w' ⟨rfl, rfl⟩)
        | (go_at_call 43; (with_reducible refine (HI.out _).mono ?_); rintro e w' ⟨rfl, rfl⟩))
      go_ret
      exact ⟨rfl, P1.out, P2.out⟩
set_option maxHeartbeats 4000000 in
theorem rnum_any (lab rest : List Int) (ok : Bool) (g : Nat) (w : World) (hA : AllB rest) (hlab : AllB lab) (hl : rest.length ≤ 1000000) (hR : Rd w g rest ok) :
    Calls Tryd.prog 26 #[.pointer (some ⟨g, 0, none⟩), .string (T lab)] w fun e w' => e = .returned (.int .u64 (Kub.numOf (pc lab rest) : Nat)) ∧ Rd w' g (nx lab rest) ((ok && lab.isPrefixOf rest) && numOk (pc lab rest)) ∧ KeptB w.heap.size g w w' := by
  have HP := Lib.hid (part_any lab rest ok g w hA hlab hR)
  have HN := Lib.hid fun W => fshort_any (pc lab rest) (pc_all hA) (Nat.le_trans pc_len hl) W
  generalize (ok && lab.isPrefixOf rest) = z at *
  generalize Kub.numOf (pc lab rest) = a at *
  generalize numOk (pc lab rest) = b at *
  generalize T (pc lab rest) = S at *
  generalize T lab = R at *
  clear hA hlab hl hR
  go_enter Tryd.func26, Tryd.ntmps26
  go_wp2_with (first
    | (go_at_call 41; (with_reducible refine HP.out.mono ?_); rintro e w1 ⟨rfl, hr, hk⟩; have R1 := Lib.hid hr; have K1 := Lib.hid hk; clear hr hk)
    | (go_at_call 42; (with_reducible refine (HN.out _).mono ?_); rintro e w' ⟨rfl, rfl⟩; refine Hid.out ?_))
  refine Lib.hid ?_
  have c1 := R1.out.cell (i := 1) rfl
  have f1 := R1.out.frozen 1
  have P1 := Lib.hid (show Rd (w1.setCell ⟨g, 1, none⟩ (.bool (z && b))) g (nx lab rest) (z && b) from R1.out.set_ 1 (.bool (z && b)))
  have P2 := Lib.hid (show KeptB w.heap.size g w (w1.setCell ⟨g, 1, none⟩ (.bool (z && b))) from K1.out.setCell (p := (⟨g, 1, none⟩ : Addr)) (.inr rfl) _)
  clear R1 K1
  cases z
  all_goals
    go_wp2
    go_ret
    exact ⟨rfl, P1.out, P2.out⟩
end Go.Proofs.YtpfkhcgeblihcaaDoor.Kul
