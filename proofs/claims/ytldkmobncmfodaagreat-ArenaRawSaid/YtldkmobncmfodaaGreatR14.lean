/-
  Texts beneath the proof, one behind the other.
-/
import Derived.Deep.RegionHeld3
import Derived.Sort.Grow
import Derived.Laws.IdiomStrings
import Derived.Test.YtldkmobncmfodaaGreatR13
import Derived.Test.YtldkmobncmfodaaGreatR2
import Derived.Test.YtldkmobncmfodaaGreatR1

/-
  The document's writer in memory: its cells, one set at a time.
-/
namespace Go.Proofs.YtldkmobncmfodaaGreat.Mc
open Go.ChangeShapes Go.WideShapes Go.ChangeAt Go.RowKit
open Bytes8 Blk8 Own8 OwnM OwnA OwnE LeA LeNum LeB LeP RefA RefB Ob Oc Od Ga Ma Kf Mb
set_option linter.unusedVariables false
set_option linter.unusedSimpArgs false
set_option maxRecDepth 100000

/-- The four slices of a writer. -/
structure Sl where
  b : Value
  d : Value
  f : Value
  m : Value
def Cf.at_ (C : Cf) (i : Nat) : Value :=
  if i < 48 then (if i < 16 then .int .u8 (C.F i) else if i < 32 then .int .u8 (C.M (i - 16)) else .int .u8 (C.S (i - 32)))
  else if i = 48 then .int .i64 (C.ds : Int) else if i = 49 then .int .i64 (C.fs : Int) else if i = 50 then .int .i64 (C.most : Int) else .bool C.keyed
def Mk.at_ (m : Mk) (S : Sl) (i : Nat) : Value :=
  if i < 142 then (if i < 52 then Cf.at_ m.C i else m.h.at_ 20 (i - 52))
  else if i = 142 then .int .u64 (m.depth : Int) else if i = 143 then S.b else if i = 144 then S.d else if i = 145 then S.f else S.m
def Mk.cells (m : Mk) (S : Sl) : List Value := (List.range 147).map (Mk.at_ m S)
theorem Mk.len (m : Mk) (S : Sl) : (Mk.cells m S).length = 147 := by simp [Mk.cells]
theorem Mk.get (m : Mk) (S : Sl) (i : Nat) (hi : i < 147) : (Mk.cells m S)[i]? = some (Mk.at_ m S i) := by simp [Mk.cells, hi]
theorem Mk.get_N (m : Mk) (S : Sl) (i : Nat) (hi : i < 20) : (Mk.cells m S)[119 + i]? = some (.int .u64 (m.h.N i)) := by
  rw [Mk.get m S _ (by omega)]
  unfold Mk.at_
  rw [if_pos (by omega), if_neg (by omega), show 119 + i - 52 = 67 + i by omega]
  have := m.h.get_N 20 i hi
  rw [m.h.get 20 _ (by omega)] at this
  exact this
theorem Mk.get_depth (m : Mk) (S : Sl) : (Mk.cells m S)[142]? = some (.int .u64 (m.depth : Int)) := by rw [Mk.get m S _ (by decide)]; rfl
theorem Mk.get_b (m : Mk) (S : Sl) : (Mk.cells m S)[143]? = some S.b := by rw [Mk.get m S _ (by decide)]; rfl
theorem Mk.get_d (m : Mk) (S : Sl) : (Mk.cells m S)[144]? = some S.d := by rw [Mk.get m S _ (by decide)]; rfl
theorem Mk.get_f (m : Mk) (S : Sl) : (Mk.cells m S)[145]? = some S.f := by rw [Mk.get m S _ (by decide)]; rfl
theorem Mk.get_m (m : Mk) (S : Sl) : (Mk.cells m S)[146]? = some S.m := by rw [Mk.get m S _ (by decide)]; rfl
theorem Mk.get_ds (m : Mk) (S : Sl) : (Mk.cells m S)[48]? = some (.int .i64 (m.C.ds : Int)) := by rw [Mk.get m S _ (by decide)]; rfl
theorem Mk.get_fs (m : Mk) (S : Sl) : (Mk.cells m S)[49]? = some (.int .i64 (m.C.fs : Int)) := by rw [Mk.get m S _ (by decide)]; rfl
theorem Mk.get_keyed (m : Mk) (S : Sl) : (Mk.cells m S)[51]? = some (.bool m.C.keyed) := by rw [Mk.get m S _ (by decide)]; rfl
theorem set_map (f f' : Nat → Value) (n i : Nat) (v : Value) (h1 : f' i = v) (h2 : ∀ j, j ≠ i → f' j = f j) : ((List.range n).map f).set i v = (List.range n).map f' := by
  apply List.ext_getElem?
  intro j
  rw [List.getElem?_set]
  by_cases hj : j < n
  · by_cases he : i = j
    · subst he
      simp [hj, h1]
    · rw [if_neg he]
      simp [hj, h2 j (fun e => he e.symm)]
  · simp [hj]
    omega
theorem at_N (m : Mk) (S : Sl) (i : Nat) (hi : i < 20) : Mk.at_ m S (119 + i) = .int .u64 (m.h.N i) := by
  have := Mk.get_N m S i hi
  rw [Mk.get m S _ (by omega)] at this
  injection this
theorem Mk.set_N (m : Mk) (S : Sl) (i : Nat) (hi : i < 20) (v : Int) : (Mk.cells m S).set (119 + i) (.int .u64 v) = Mk.cells { m with h := setN m.h i v } S := by
  refine set_map _ _ _ _ _ ?_ fun j hj => ?_
  · rw [at_N _ _ _ hi]; simp [setN]
  · unfold Mk.at_
    by_cases h1 : j < 142
    · rw [if_pos h1, if_pos h1]
      by_cases h2 : j < 52
      · rw [if_pos h2, if_pos h2]
      · rw [if_neg h2, if_neg h2]
        unfold HD.at_
        simp only [setN]
        by_cases h3 : j - 52 < 67 + 20
        · by_cases h4 : j - 52 < 67
          · simp only [h4, if_true]
          · rw [if_neg (by omega), if_neg h4, if_pos h3, if_neg (by omega), if_neg h4, if_pos h3, if_neg (by omega)]
        · simp only [h3, if_false]
    · rw [if_neg h1, if_neg h1]
theorem Mk.set_Nk (m : Mk) (S : Sl) (i k : Nat) (hi : i < 20) (hk : k = 119 + i) (v : Int) : (Mk.cells m S).set k (.int .u64 v) = Mk.cells { m with h := setN m.h i v } S := by subst hk; exact Mk.set_N m S i hi v
theorem Mk.get_Nk (m : Mk) (S : Sl) (i k : Nat) (hi : i < 20) (hk : k = 119 + i) : (Mk.cells m S)[k]? = some (.int .u64 (m.h.N i)) := by subst hk; exact Mk.get_N m S i hi
theorem Mk.set_depth (m : Mk) (S : Sl) (v : Nat) : (Mk.cells m S).set 142 (.int .u64 (v : Int)) = Mk.cells { m with depth := v } S :=
  set_map _ _ _ _ _ rfl fun j hj => by
    unfold Mk.at_
    by_cases h1 : j < 142
    · rw [if_pos h1, if_pos h1]
    · rw [if_neg h1, if_neg h1, if_neg hj, if_neg hj]
theorem Mk.set_b (m : Mk) (S : Sl) (v : Value) : (Mk.cells m S).set 143 v = Mk.cells m { S with b := v } :=
  set_map _ _ _ _ _ rfl fun j hj => by
    unfold Mk.at_
    by_cases h1 : j < 142
    · rw [if_pos h1, if_pos h1]
    · rw [if_neg h1, if_neg h1, if_neg hj, if_neg hj]
theorem Mk.cells_same {m m' : Mk} (h1 : m.C = m'.C) (h2 : m.h = m'.h) (h3 : m.depth = m'.depth) (S : Sl) : Mk.cells m S = Mk.cells m' S := by
  unfold Mk.cells
  congr 1
  funext i
  unfold Mk.at_
  rw [h1, h2, h3]
end Go.Proofs.YtldkmobncmfodaaGreat.Mc

/-
  The document's writer: an object put at the end.
-/
namespace Go.Proofs.YtldkmobncmfodaaGreat.Md
open Go.ChangeShapes Go.WideShapes Go.ChangeAt Go.RowKit
open Bytes8 Blk8 Own8 OwnM OwnA OwnE LeA LeNum LeB LeP RefA RefB Ob Oc Od Ga Ma Kf Mb Mc
set_option linter.unusedVariables false
set_option linter.unusedSimpArgs false
set_option maxRecDepth 100000

/-- The writer behind a pointer, and its image. -/
structure MkB (w : World) (B g bb cb : Nat) (S : Sl) (m : Mk) : Prop where
  st : Blk w g (Mk.cells m { S with b := .slice (some ⟨bb, 0, none⟩) m.b.length cb }) 183
  own : Own w B (some ⟨bb, 0, none⟩) m.b.length cb m.b
  ne : g ≠ bb
/-- Both its blocks. -/
def Two (g bb : Nat) (k : Nat) : Prop := k = g ∨ k = bb
theorem MkB.put {w w' : World} {B g bb cb : Nat} {S : Sl} {m : Mk} (h : MkB w B g bb cb S m) {l : List Int} (hl : l.length = m.b.length) (ho : Own w' B (some ⟨bb, 0, none⟩) m.b.length cb l) (hp : Put8 bb w w') : MkB w' B g bb cb S { m with b := l } :=
  ⟨by show Blk w' g (Mk.cells m { S with b := .slice (some ⟨bb, 0, none⟩) l.length cb }) _
      rw [hl]; exact blk_keptF h.st hp.kept h.ne, by show Own w' B _ l.length cb l; rw [hl]; exact ho, h.ne⟩
attribute [local irreducible] Mk.cells wpList Code.wp
end Go.Proofs.YtldkmobncmfodaaGreat.Md

/-
  The document's writer: an object hung into the chain of its slot.
-/
namespace Go.Proofs.YtldkmobncmfodaaGreat.Me
open Go.ChangeShapes Go.WideShapes Go.ChangeAt Go.RowKit
open Bytes8 Blk8 Own8 OwnM OwnA OwnE LeA LeNum LeB LeP RefA RefB Ob Oc Od Ga Ma Kf Mb Mc Md
set_option linter.unusedVariables false
set_option linter.unusedSimpArgs false
set_option maxRecDepth 100000

attribute [local irreducible] Mk.cells wpList Code.wp
end Go.Proofs.YtldkmobncmfodaaGreat.Me

/-
  A world that has grown: draws, and new blocks.
-/
namespace Go.Proofs.YtldkmobncmfodaaGreat.Fb
open Go.ChangeShapes Go.WideShapes Go.ChangeAt Go.RowKit
open Bytes8 Blk8
set_option linter.unusedVariables false
set_option maxRecDepth 100000
set_option linter.unusedSimpArgs false

/-! ## a world that has grown -/
/-- Draws, and new blocks. -/
def Grew (w w' : World) : Prop := ∃ q os, w' = Sort.grow (w.drewN q) os
theorem Grew.refl (w : World) : Grew w w := ⟨0, #[], by rw [Sort.grow_empty]; rfl⟩
theorem Grew.alloc {w w' : World} (h : Grew w w') (o : Obj) : Grew w (w'.alloc o) := by
  obtain ⟨q, os, rfl⟩ := h
  exact ⟨q, os ++ #[o], by rw [Sort.alloc_eq_grow, Sort.grow_grow]⟩
theorem Grew.drew {w w' : World} (h : Grew w w') : Grew w w'.drew := by
  obtain ⟨q, os, rfl⟩ := h
  exact ⟨q + 1, os, rfl⟩
theorem Grew.drewN {w w' : World} (h : Grew w w') (n : Nat) : Grew w (w'.drewN n) := by
  obtain ⟨q, os, rfl⟩ := h
  refine ⟨q + n, os, ?_⟩
  simp only [Sort.grow, World.drewN, Nat.add_assoc]
theorem Grew.trans {a b c : World} (h : Grew a b) (k : Grew b c) : Grew a c := by
  obtain ⟨q, os, rfl⟩ := h
  obtain ⟨q', os', rfl⟩ := k
  refine ⟨q + q', os ++ os', ?_⟩
  simp only [Sort.grow, World.drewN, Nat.add_assoc, Array.append_assoc]
theorem Grew.below {w w' : World} (h : Grew w w') : Below w.heap.size w w' := by
  obtain ⟨q, os, rfl⟩ := h
  refine ⟨rfl, rfl, rfl, by simp [Sort.grow, World.drewN], fun k hk => ?_⟩
  exact Sort.heap_grow_old (w.drewN q) os hk
end Go.Proofs.YtldkmobncmfodaaGreat.Fb

/-
  '[]byte(s)': bytes of the call's own.
-/
namespace Go.Proofs.YtldkmobncmfodaaGreat.Fc
open Go.ChangeShapes Go.WideShapes Go.ChangeAt Go.RowKit
open Bytes8 Blk8 Fa Fb
set_option linter.unusedVariables false
set_option maxRecDepth 100000
set_option linter.unusedSimpArgs false


end Go.Proofs.YtldkmobncmfodaaGreat.Fc

/-
  What the small functions of package field answer, and the document's own: names, flaws, payloads.
-/
namespace Go.Proofs.YtldkmobncmfodaaGreat.Fb
open Go.ChangeShapes Go.WideShapes Go.ChangeAt Go.RowKit
open Bytes8 Blk8 Fa
set_option linter.unusedVariables false
set_option maxRecDepth 100000
set_option linter.unusedSimpArgs false

theorem rname_any (l : List Int) (hA : AllB l) (hmax : l.length ≤ 9223372036854775807) (w : World) : Calls Tryz.prog 176 #[.string (T l)] w fun e w' => e = .returned (.bool (nmB l)) ∧ w = w' := by
  have hsz := T_size l
  have HI := Lib.hid (index_at l hA)
  have HC := Lib.hid fun j => hA.at_ j
  /- What keeps a name from being one, place by place. -/
  have HN := Lib.hid (fun j (hj : j < l.length) (h : okC (l.getD j 0) = false ∨ j = 0 ∧ isDig (l.getD j 0) = true) => (by
    rcases h with h | ⟨rfl, h⟩
    · exact nmB_no hj h
    · unfold nmB; rw [h]; simp : nmB l = false))
  have HE := Lib.hid (fun (h : ∀ j, j < l.length → okC (l.getD j 0) = true ∧ (j = 0 → isDig (l.getD j 0) = false)) => (by
    rcases Nat.eq_zero_or_pos l.length with h0 | h0
    · obtain rfl := List.eq_nil_of_length_eq_zero h0
      rfl
    · unfold nmB
      rw [(h 0 h0).2 rfl, all_of fun j hj => (h j hj).1]
      simp : nmB l = (decide (1 ≤ l.length) && decide (l.length ≤ 64))))
  generalize hL : l.length = len at *
  have HL := Lib.hid hL
  clear hL
  generalize T l = S at *
  go_enter Tryz.func176, Tryz.ntmps176
  go_wp2
  go_loop [3] (fun i => ∃ k : Nat, k ≤ len ∧ i = .int .i64 (k : Int) ∧ Hid (∀ j, j < k → okC (l.getD j 0) = true ∧ (j = 0 → isDig (l.getD j 0) = false))) (fun i => len - (intOf i).toNat)
  case atStart => exact ⟨0, by omega, rfl, Lib.hid fun j hj => absurd hj (by omega)⟩
  case round =>
    obtain ⟨k, hk, rfl, hall⟩ := hrel
    rcases Nat.lt_or_ge k len with hlt | hge
    · have hidx := HI.out k (by omega)
      have hin : (k : Int) < (len : Int) := by omega
      obtain ⟨c1, c2⟩ := HC.out k
      have HNk := Lib.hid (HN.out k (by omega))
      have HKk := Lib.hid (fun (h : okC (l.getD k 0) = true ∧ (k = 0 → isDig (l.getD k 0) = false)) j (hj : j < k + 1) => (by
        rcases Nat.lt_or_ge j k with h1 | h1
        · exact hall.out j h1
        · obtain rfl : j = k := by omega
          exact h : okC (l.getD j 0) = true ∧ (j = 0 → isDig (l.getD j 0) = false)))
      clear hall
      generalize l.getD k 0 = c at *
      have hgo : ((48 ≤ c ∧ c ≤ 57 ∧ 0 < k) ∨ (57 < c ∧ 65 ≤ c ∧ c ≤ 90) ∨ c = 95) ∧ (okC c = true ∧ (k = 0 → isDig c = false)) ∨ (c < 48 ∨ (48 ≤ c ∧ c ≤ 57 ∧ k = 0) ∨ (57 < c ∧ c < 65) ∨ (90 < c ∧ c ≠ 95)) ∧ (okC c = false ∨ k = 0 ∧ isDig c = true) := by
        simp only [okC, isDig, isLet, Bool.or_eq_true, Bool.and_eq_true, decide_eq_true_eq, Bool.or_eq_false_iff, Bool.and_eq_false_iff, decide_eq_false_iff_not]
        omega
      rcases hgo with ⟨hd, hok⟩ | ⟨hd, hok⟩
      · have HK2 := Lib.hid (HKk.out hok)
        clear HNk HKk hok
        rcases hd with ⟨d1, d2, d3⟩ | ⟨d1, d2, d3⟩ | rfl
        all_goals
          go_wp2
          go_round
          case rel => exact ⟨k + 1, by omega, by go_num, HK2⟩
          case measure => simp [intOf]; omega
      · have HN2 := Lib.hid (HNk.out hok)
        clear HKk HNk hok
        rcases hd with d1 | ⟨d1, d2, d3⟩ | ⟨d1, d2⟩ | ⟨d1, d2⟩
        · go_wp2
          go_ret
          exact ⟨ret_bool HN2.out.symm, rfl⟩
        · have hk0 : ¬ (0 : Int) < (k : Int) := by omega
          have hk1 : ¬ 0 < k := by omega
          clear d3
          go_wp2
          go_ret
          exact ⟨ret_bool HN2.out.symm, rfl⟩
        · go_wp2
          go_ret
          exact ⟨ret_bool HN2.out.symm, rfl⟩
        · have h95 : (c == 95) = false := by simpa using d2
          clear d2
          go_wp2
          go_ret
          exact ⟨ret_bool HN2.out.symm, rfl⟩
    · obtain rfl : k = len := by omega
      have HYk := Lib.hid (HE.out (fun j hj => hall.out j (by have := HL.out; omega)))
      clear hall
      have h3 : k = 0 ∨ (1 ≤ k ∧ k ≤ 64) ∨ 64 < k := by omega
      rcases h3 with rfl | ⟨h1, h2⟩ | h1
      · have HY2 := Lib.hid (HYk.out.trans (show (decide (1 ≤ 0) && decide (0 ≤ 64)) = false from rfl))
        clear HYk
        go_wp2
        go_ret
        exact ⟨ret_bool HY2.out.symm, rfl⟩
      · have HY2 := Lib.hid (HYk.out.trans (show (decide (1 ≤ k) && decide (k ≤ 64)) = true by rw [decide_eq_true h1, decide_eq_true h2]; rfl))
        clear HYk
        have hdd : decide ((k : Int) ≤ 64) = true := by simp; omega
        go_wp2
        go_ret
        exact ⟨ret_bool HY2.out.symm, rfl⟩
      · have HY2 := Lib.hid (HYk.out.trans (show (decide (1 ≤ k) && decide (k ≤ 64)) = false by rw [decide_eq_false (show ¬ k ≤ 64 by omega)]; simp))
        clear HYk
        have hdd : decide ((k : Int) ≤ 64) = false := by simp; omega
        go_wp2
        go_ret
        exact ⟨ret_bool HY2.out.symm, rfl⟩

end Go.Proofs.YtldkmobncmfodaaGreat.Fb

/-
  What the small functions of package field answer, and the document's own: names, flaws, payloads.
-/
namespace Go.Proofs.YtldkmobncmfodaaGreat.Fb
open Go.ChangeShapes Go.WideShapes Go.ChangeAt Go.RowKit
open Bytes8 Blk8 Fa
set_option linter.unusedVariables false
set_option maxRecDepth 100000
set_option linter.unusedSimpArgs false

/-! ## names -/
theorem isDigit_any (c : Int) (w : World) : Calls Tryz.prog 210 #[.int .u8 c] w fun e w' => e = .returned (.bool (isDig c)) ∧ w = w' := by
  by_cases h1 : 48 ≤ c <;> by_cases h2 : c ≤ 57
  all_goals
    go_enter Tryz.func210, Tryz.ntmps210
    go_wp2
    go_ret
    exact ⟨by simp [isDig, h1, h2], rfl⟩
theorem isLetter_any (c : Int) (w : World) : Calls Tryz.prog 211 #[.int .u8 c] w fun e w' => e = .returned (.bool (isLet c)) ∧ w = w' := by
  by_cases h1 : 65 ≤ c <;> by_cases h2 : c ≤ 90
  all_goals
    go_enter Tryz.func211, Tryz.ntmps211
    go_wp2
    go_ret
    exact ⟨by simp [isLet, h1, h2], rfl⟩

theorem name_any (l : List Int) (hA : AllB l) (w : World) : Calls Tryz.prog 189 #[.string (T l)] w fun e w' => e = .returned (.bool (nmB l)) ∧ w = w' := by
  have hsz := T_size l
  have HI := Lib.hid (index_at l hA)
  have h0 : (T l).toList.isEmpty = decide (l.length = 0) := by
    rw [T_toList]; cases l <;> rfl
  by_cases hlen : l.length = 0
  · have he : nmB l = false := by
      obtain rfl := List.eq_nil_of_length_eq_zero hlen
      rfl
    rw [he]
    rw [decide_eq_true hlen] at h0
    generalize T l = S at *
    clear HI
    go_enter Tryz.func189, Tryz.ntmps189
    go_wp2
    go_ret
    exact ⟨rfl, rfl⟩
  rw [decide_eq_false hlen] at h0
  by_cases h64 : 64 < l.length
  · have he : nmB l = false := by
      cases h : nmB l with
      | false => rfl
      | true => have := nmB_len h; omega
    rw [he]
    generalize T l = S at *
    clear HI
    go_enter Tryz.func189, Tryz.ntmps189
    go_wp2
    go_ret
    exact ⟨rfl, rfl⟩
  have HI0 : ∀ w, (Instr.index 9 (.string (T l)) (.int .i64 0)).run Tryz.prog w = .ok (.int .u8 (l.getD 0 0)) w := HI.out 0 (by omega)
  have HD := Lib.hid fun w => isDigit_any (l.getD 0 0) w
  cases hd : isDig (l.getD 0 0) with
  | true =>
    have he : nmB l = false := by unfold nmB; rw [hd]; simp
    rw [he]
    rw [hd] at HD
    clear HI hd
    generalize l.getD 0 0 = c0 at *
    generalize T l = S at *
    go_enter Tryz.func189, Tryz.ntmps189
    go_wp2_with (go_at_call 210; (with_reducible refine (HD.out _).mono ?_); rintro e w' ⟨rfl, rfl⟩)
    go_ret
    exact ⟨rfl, rfl⟩
  | false =>
    have HY := Lib.hid (fun h => nmB_yes (l := l) (by omega) (by omega) hd h)
    have HN := Lib.hid (fun j hj h => nmB_no (l := l) (j := j) hj h)
    rw [hd] at HD
    clear hd
    have HC := Lib.hid fun j => hA.at_ j
    generalize hL : l.length = len at *
    have HL := Lib.hid hL
    clear hL
    generalize hc : l.getD 0 0 = c0 at *
    clear hc
    generalize T l = S at *
    go_enter Tryz.func189, Tryz.ntmps189
    go_wp2_with (go_at_call 210; (with_reducible refine (HD.out _).mono ?_); rintro e w' ⟨rfl, rfl⟩)
    go_loop [18] (fun i => ∃ k : Nat, k ≤ len ∧ i = .int .i64 (k : Int) ∧ Hid (∀ j, j < k → okC (l.getD j 0) = true)) (fun i => len - (intOf i).toNat)
    case atStart => exact ⟨0, by omega, rfl, Lib.hid fun j hj => absurd hj (by omega)⟩
    case round =>
      obtain ⟨k, hk, rfl, hall⟩ := hrel
      rcases Nat.lt_or_ge k len with hlt | hge
      · have hidx := HI.out k (by omega)
        have hin : (k : Int) < (len : Int) := by omega
        have hk1 : k ≤ 64 := by omega
        have HDk := Lib.hid fun w => isDigit_any (l.getD k 0) w
        have HLk := Lib.hid fun w => isLetter_any (l.getD k 0) w
        obtain ⟨c1, c2⟩ := HC.out k
        have HNk := Lib.hid (HN.out k (by omega))
        have HKk := Lib.hid (fun (h : okC (l.getD k 0) = true) j (hj : j < k + 1) => (by
          rcases Nat.lt_or_ge j k with h1 | h1
          · exact hall.out j h1
          · obtain rfl : j = k := by omega
            exact h : okC (l.getD j 0) = true))
        clear hall
        generalize l.getD k 0 = c at *
        have hgo : okC c = true ∧ (isDig c = true ∨ isDig c = false ∧ isLet c = true ∨ isDig c = false ∧ isLet c = false ∧ c = 95) ∨ okC c = false ∧ isDig c = false ∧ isLet c = false ∧ c ≠ 95 := by
          unfold okC
          cases isDig c <;> cases isLet c <;> by_cases h3 : c = 95 <;> simp [h3]
        rcases hgo with ⟨hok, hd | ⟨hd, hl⟩ | ⟨hd, hl, rfl⟩⟩ | ⟨hok, hd, hl, h95⟩
        · rw [hd] at HDk
          clear hd
          have HKk := Lib.hid (HKk.out hok)
          clear HNk hok
          go_wp2_with (go_at_call 210; (with_reducible refine (HDk.out _).mono ?_); rintro e w' ⟨rfl, rfl⟩)
          go_round
          case rel => exact ⟨k + 1, by omega, by go_num, HKk⟩
          case measure => simp [intOf]; omega
        · rw [hd] at HDk
          rw [hl] at HLk
          clear hd hl
          have HKk := Lib.hid (HKk.out hok)
          clear HNk hok
          go_wp2_with (first | (go_at_call 210; (with_reducible refine (HDk.out _).mono ?_); rintro e w' ⟨rfl, rfl⟩) | (go_at_call 211; (with_reducible refine (HLk.out _).mono ?_); rintro e w' ⟨rfl, rfl⟩))
          go_round
          case rel => exact ⟨k + 1, by omega, by go_num, HKk⟩
          case measure => simp [intOf]; omega
        · rw [hd] at HDk
          rw [hl] at HLk
          clear hd hl
          have HKk := Lib.hid (HKk.out hok)
          clear HNk hok
          go_wp2_with (first | (go_at_call 210; (with_reducible refine (HDk.out _).mono ?_); rintro e w' ⟨rfl, rfl⟩) | (go_at_call 211; (with_reducible refine (HLk.out _).mono ?_); rintro e w' ⟨rfl, rfl⟩))
          go_round
          case rel => exact ⟨k + 1, by omega, by go_num, HKk⟩
          case measure => simp [intOf]; omega
        · rw [hd] at HDk
          rw [hl] at HLk
          clear hd hl
          have HNk := Lib.hid (HNk.out hok)
          clear HKk hok
          go_wp2_with (first | (go_at_call 210; (with_reducible refine (HDk.out _).mono ?_); rintro e w' ⟨rfl, rfl⟩) | (go_at_call 211; (with_reducible refine (HLk.out _).mono ?_); rintro e w' ⟨rfl, rfl⟩))
          go_ret
          exact ⟨ret_bool HNk.out.symm, rfl⟩
      · obtain rfl : k = len := by omega
        have HYk := Lib.hid (HY.out (fun j hj => hall.out j (by have := HL.out; omega)))
        clear hall
        go_wp2
        go_ret
        exact ⟨ret_bool HYk.out.symm, rfl⟩

/-! ## flaws -/
end Go.Proofs.YtldkmobncmfodaaGreat.Fb

/-
  What Right, Join, Split, and the document's own, answer.
-/
namespace Go.Proofs.YtldkmobncmfodaaGreat.Fc
open Go.ChangeShapes Go.WideShapes Go.ChangeAt Go.RowKit
open Bytes8 Blk8 Fa Fb
set_option linter.unusedVariables false
set_option maxRecDepth 100000
set_option linter.unusedSimpArgs false





end Go.Proofs.YtldkmobncmfodaaGreat.Fc

/-
  What Right, Join, Split, and the document's own, answer.
-/
namespace Go.Proofs.YtldkmobncmfodaaGreat.Fc
open Go.ChangeShapes Go.WideShapes Go.ChangeAt Go.RowKit
open Bytes8 Blk8 Fa Fb
set_option linter.unusedVariables false
set_option maxRecDepth 100000
set_option linter.unusedSimpArgs false

/-! ## joining -/
end Go.Proofs.YtldkmobncmfodaaGreat.Fc

/-
  The order of pairs: plain; what Less and compare answer.
-/
namespace Go.Proofs.YtldkmobncmfodaaGreat.Fo
open Go.ChangeShapes Go.WideShapes Go.ChangeAt Go.RowKit
open Bytes8 Blk8 Fa Fb Fc
set_option linter.unusedVariables false
set_option maxRecDepth 100000
set_option linter.unusedSimpArgs false

def lessP (n v m u : List Int) : Bool := ltL (pay n v) (pay m u)

end Go.Proofs.YtldkmobncmfodaaGreat.Fo

/-
  A maker of numbers behind a pointer: what N answers; a pair out of it.
-/
namespace Go.Proofs.YtldkmobncmfodaaGreat.Seq8
open Go.ChangeShapes Go.WideShapes Go.ChangeAt Go.RowKit
open Bytes8 Blk8 Fa Fb Fc Numb Rows2
set_option linter.unusedVariables false
set_option maxRecDepth 100000
set_option linter.unusedSimpArgs false

/-- The maker at the block gq: its numbers, and how many are told. -/
def SeqIn (w : World) (gq : Nat) (a : Option Addr) (len cap : Nat) (f : Nat → Int) (k : Nat) : Prop :=
  Blk w gq [.slice a len cap, .int .i64 (k : Int)] 92 ∧ InInts .i64 w a len f ∧ (0 < len → ∀ b off, a = some ⟨b, off, none⟩ → b ≠ gq) ∧ k ≤ len ∧ len ≤ 9223372036854775807
theorem SeqIn.below {w w' : World} {gq : Nat} {a : Option Addr} {len cap : Nat} {f : Nat → Int} {k : Nat} (h : SeqIn w gq a len cap f k) (hb : Below w.heap.size w w') : SeqIn w' gq a len cap f k :=
  ⟨h.1.below hb h.1.lt, h.2.1.below hb, h.2.2⟩

theorem ints_keptB {kk : IntKind} {w w' : World} {gq : Nat} {a : Option Addr} {len : Nat} {f : Nat → Int} (h : InInts kk w a len f) (hk : KeptB w.heap.size gq w w') (hne : 0 < len → ∀ b off, a = some ⟨b, off, none⟩ → b ≠ gq) : InInts kk w' a len f := fun i hi => by
  obtain ⟨b, off, e, h1, h2, h3⟩ := h i hi
  exact ⟨b, off, e, Nat.lt_of_lt_of_le h1 hk.size, (World.cell?_of_block (hk.block b h1 (hne (by omega) b off e))).trans h2, h3⟩


/-! ## the few names and values -/
def texts (ls : List (List Int)) : List Value := ls.map fun l => .string (T l)

end Go.Proofs.YtldkmobncmfodaaGreat.Seq8

/-
  A pair out of a maker of numbers.
-/
namespace Go.Proofs.YtldkmobncmfodaaGreat.SeqP
open Go.ChangeShapes Go.WideShapes Go.ChangeAt Go.RowKit
open Bytes8 Blk8 Fa Fb Fc Numb Rows2 Seq8
set_option linter.unusedVariables false
set_option maxRecDepth 100000
set_option linter.unusedSimpArgs false



end Go.Proofs.YtldkmobncmfodaaGreat.SeqP
