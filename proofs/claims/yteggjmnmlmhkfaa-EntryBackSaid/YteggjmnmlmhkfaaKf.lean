/-
  What a call leaves that writes blocks of a known set; rows of the call's own beside each other; 'append' of zeros by number.
-/
import Derived.Test.YteggjmnmlmhkfaaOwnA
import Derived.Test.YteggjmnmlmhkfaaOwnE
import Derived.Lib.AppendZerosOnto
namespace Go.Proofs.Yteggjmnmlmhkfaa.Kf
open Go.ChangeShapes Go.WideShapes Go.ChangeAt Go.RowKit
open Bytes8 Blk8 Own8 OwnM OwnA
set_option linter.unusedVariables false
set_option maxRecDepth 100000
set_option linter.unusedSimpArgs false

/-- Blocks that were there, but those of F, are as they were. -/
structure KeptF (F : Nat → Prop) (w w' : World) : Prop where
  os : w'.os = w.os
  tape : w'.tape = w.tape
  output : w'.output = w.output
  size : w.heap.size ≤ w'.heap.size
  block : ∀ k, k < w.heap.size → ¬ F k → w'.heap[k]? = w.heap[k]?

/-- F, and what is new since. -/
def Ext (F : Nat → Prop) (w w' : World) (k : Nat) : Prop := F k ∨ (w.heap.size ≤ k ∧ k < w'.heap.size)
def None' (k : Nat) : Prop := False
def One (g : Nat) (k : Nat) : Prop := k = g
/-- All of them are there. -/
def Foot (w : World) (F : Nat → Prop) : Prop := ∀ k, F k → k < w.heap.size
/-- No block is in both. -/
def Off (F G : Nat → Prop) : Prop := ∀ k, F k → ¬ G k

theorem KeptF.refl (F : Nat → Prop) (w : World) : KeptF F w w := ⟨rfl, rfl, rfl, Nat.le_refl _, fun _ _ _ => rfl⟩
theorem KeptF.trans {F G : Nat → Prop} {a b c : World} (h : KeptF F a b) (k : KeptF G b c) (hG : ∀ i, i < a.heap.size → G i → F i) : KeptF F a c :=
  ⟨k.os.trans h.os, k.tape.trans h.tape, k.output.trans h.output, Nat.le_trans h.size k.size, fun i hi hF => (k.block i (Nat.lt_of_lt_of_le hi h.size) (fun hg => hF (hG i hi hg))).trans (h.block i hi hF)⟩
theorem KeptF.then {F : Nat → Prop} {a b c : World} (h : KeptF F a b) (k : KeptF (Ext F a b) b c) : KeptF F a c :=
  h.trans k fun i hi he => by
    rcases he with h1 | h1
    · exact h1
    · omega
theorem KeptF.mono {F G : Nat → Prop} {w w' : World} (h : KeptF F w w') (hG : ∀ i, F i → G i) : KeptF G w w' :=
  ⟨h.os, h.tape, h.output, h.size, fun i hi hg => h.block i hi (fun hf => hg (hG i hf))⟩
theorem KeptF.of_below {F : Nat → Prop} {w w' : World} (h : Below w.heap.size w w') : KeptF F w w' := ⟨h.os, h.tape, h.output, h.size, fun k hk _ => h.block k hk⟩
theorem KeptF.below {F : Nat → Prop} {B : Nat} {w w' : World} (h : KeptF F w w') (hB : B ≤ w.heap.size) (hF : ∀ k, F k → B ≤ k) : Below B w w' :=
  ⟨h.os, h.tape, h.output, h.size, fun k hk => h.block k (by omega) (fun hf => by have := hF k hf; omega)⟩
/-- .. behind a Below. -/
theorem below_then {F : Nat → Prop} {B : Nat} {a b c : World} (h : Below B a b) (k : KeptF F b c) (hB : B ≤ b.heap.size) (hF : ∀ k, F k → B ≤ k) : Below B a c := h.trans (k.below hB hF)
theorem KeptF.alloc {F : Nat → Prop} {a w : World} (h : KeptF F a w) (o : Obj) : KeptF F a (w.alloc o) :=
  h.trans (G := None') (KeptF.of_below ((Below.refl _ _).alloc (Nat.le_refl _) o)) fun _ _ h => h.elim
theorem KeptF.drew {F : Nat → Prop} {a w : World} (h : KeptF F a w) : KeptF F a w.drew := ⟨h.os, h.tape, h.output, h.size, h.block⟩
theorem KeptF.drewN {F : Nat → Prop} {a w : World} (h : KeptF F a w) (n : Nat) : KeptF F a (w.drewN n) := ⟨h.os, h.tape, h.output, h.size, h.block⟩
theorem KeptF.setCell {F : Nat → Prop} {a w : World} (h : KeptF F a w) {p : Addr} (hp : p.block < a.heap.size → F p.block) (u : Value) : KeptF F a (w.setCell p u) :=
  ⟨h.os, h.tape, h.output, Nat.le_trans h.size (by simp [World.setCell]), fun k hk hF => (Below.heap_setCell _ _ _ _ (fun e => hF (by rw [e]; exact hp (by omega)))).trans (h.block k hk hF)⟩
theorem KeptF.set1 (w : World) (g i : Nat) (u : Value) : KeptF (One g) w (w.setCell ⟨g, i, none⟩ u) := (KeptF.refl (One g) w).setCell (p := ⟨g, i, none⟩) (fun _ => (rfl : g = g)) u
theorem KeptF.grown {F : Nat → Prop} {a w w' : World} {row : Option Nat} (h : KeptF F a w) (hg : w.grownBy w' row) (hr : ∀ k, row = some k → k < a.heap.size → F k) : KeptF F a w' :=
  ⟨hg.os.trans h.os, hg.tape.trans h.tape, hg.output.trans h.output, Nat.le_trans h.size hg.size, fun k hk hF => (hg.block k (Nat.lt_of_lt_of_le hk h.size) (fun e => hF (hr k e.symm hk))).trans (h.block k hk hF)⟩
theorem KeptF.grow {w w' : World} (row : Option Nat) (hg : w.grownBy w' row) : KeptF (fun k => row = some k) w w' := (KeptF.refl _ w).grown hg fun _ h _ => h

theorem Ext.low {F : Nat → Prop} {B : Nat} {w w' : World} (hB : B ≤ w.heap.size) (hF : ∀ k, F k → B ≤ k) : ∀ k, Ext F w w' k → B ≤ k := fun k h => by
  rcases h with h | h
  · exact hF k h
  · omega
theorem Ext.foot {F : Nat → Prop} {w w' : World} (hF : Foot w F) (h : w.heap.size ≤ w'.heap.size) : Foot w' (Ext F w w') := fun k hk => by
  rcases hk with hk | hk
  · exact Nat.lt_of_lt_of_le (hF k hk) h
  · exact hk.2
theorem Ext.off {F G : Nat → Prop} {w w' : World} (h : Off F G) (hG : Foot w G) : Off (Ext F w w') G := fun k hk hg => by
  rcases hk with hk | hk
  · exact h k hk hg
  · have := hG k hg; omega
theorem Ext.off' {F G : Nat → Prop} {w w' : World} (h : Off G F) (hG : Foot w G) : Off G (Ext F w w') := fun k hg hk => by
  rcases hk with hk | hk
  · exact h k hg hk
  · have := hG k hg; omega
theorem Ext.ext {F : Nat → Prop} {a b b2 c : World} (h1 : a.heap.size ≤ b.heap.size) (h2 : b2.heap.size = b.heap.size) (h3 : b.heap.size ≤ c.heap.size) : ∀ k, Ext (Ext F a b) b2 c k → Ext F a c k := fun k hk => by
  rcases hk with (hk | hk) | hk
  · exact .inl hk
  · exact .inr ⟨hk.1, by omega⟩
  · exact .inr ⟨by omega, hk.2⟩
theorem Off.symm {F G : Nat → Prop} (h : Off F G) : Off G F := fun k h1 h2 => h k h2 h1
theorem Foot.kept {F : Nat → Prop} {w w' : World} (h : Foot w F) (hs : w.heap.size ≤ w'.heap.size) : Foot w' F := fun k hk => Nat.lt_of_lt_of_le (h k hk) hs

/-- Where bytes lie, if there are any. -/
def LiesOff (A : Option Addr) (l : List Int) (F : Nat → Prop) : Prop := ∀ b off, A = some ⟨b, off, none⟩ → 0 < l.length → ¬ F b
theorem LiesOff.low {A : Option Addr} {l : List Int} {F : Nat → Prop} {w : World} {B : Nat} (h : Bytes w A l) (hB : w.heap.size ≤ B) (hF : ∀ k, F k → B ≤ k) : LiesOff A l F := fun b off e h0 hf => by
  obtain ⟨b', off', e', hlt, _⟩ := h.2 0 h0
  rw [e] at e'; simp at e'; obtain ⟨rfl, rfl⟩ := e'
  have := hF b hf; omega
theorem Bytes.keptF {F : Nat → Prop} {w w' : World} {A : Option Addr} {l : List Int} (h : Bytes w A l) (hk : KeptF F w w') (hF : LiesOff A l F) : Bytes w' A l := by
  refine ⟨h.1, fun i hi => ?_⟩
  obtain ⟨b, off, e, hlt, hc⟩ := h.2 i hi
  exact ⟨b, off, e, Nat.lt_of_lt_of_le hlt hk.size, (World.cell?_of_block (hk.block b hlt (hF b off e (by omega)))).trans hc⟩
theorem Blk.keptF {F : Nat → Prop} {w w' : World} {g : Nat} {vs : List Value} {T : TypeId} (h : Blk w g vs T) (hk : KeptF F w w') (hF : ¬ F g) : Blk w' g vs T := (hk.block g h.lt hF).trans h
theorem Own.keptF {F : Nat → Prop} {w w' : World} {base n c : Nat} {A : Option Addr} {l : List Int} (h : Own w base A n c l) (hk : KeptF F w w') (hF : ∀ g, ownB A = some g → ¬ F g) : Own w' base A n c l := by
  refine ⟨h.1, h.2.1, Nat.le_trans h.2.2.1 hk.size, h.2.2.2.1, ?_⟩
  rcases h.2.2.2.2 with h1 | ⟨k, cap, cur, h1, h2, h3, h4⟩
  · exact .inl h1
  · refine .inr ⟨k, cap, cur, h1, h2, ?_, h4⟩
    have hk2 : k < w.heap.size := by
      rcases Nat.lt_or_ge k w.heap.size with h | h
      · exact h
      · rw [Array.getElem?_eq_none h] at h3; cases h3
    injection h1 with e1 e2 e3
    subst e1
    rw [hk.block k hk2 (hF k rfl)]; exact h3
theorem Own.lower {w : World} {base b2 n c : Nat} {A : Option Addr} {l : List Int} (h : Own w base A n c l) (hb : b2 ≤ base) : Own w b2 A n c l := by
  refine ⟨h.1, h.2.1, Nat.le_trans hb h.2.2.1, h.2.2.2.1, ?_⟩
  rcases h.2.2.2.2 with h1 | ⟨k, cap, cur, h1, h2, h3⟩
  · exact .inl h1
  · exact .inr ⟨k, cap, cur, h1, Nat.le_trans hb h2, h3⟩
theorem Own.block {w : World} {base n c g : Nat} {A : Option Addr} {l : List Int} (h : Own w base A n c l) (hg : ownB A = some g) : base ≤ g ∧ g < w.heap.size := h.lt g (by rw [ownB_eq]; exact hg)

/-- 'append(b, make([]byte, m)...)': m zeros, told by their number. -/
theorem run_append_zeros (w : World) (ty : TypeId) (base : Nat) (A : Option Addr) (n c : Nat) (l : List Int) (ho : Own w base A n c l) (m : Nat) (hm : 0 < m) (hsz : n + m ≤ 70368744177664) :
    ∃ A' c' w', (Builtin.append_ #[22, 3] ty #[.slice A n c, .int .i64 m]).run Try.prog w = .ok (.slice A' (n + m) c') w' ∧ Own w' base A' (n + m) c' (l ++ List.replicate m 0) ∧ w.grownBy w' (ownB A) ∧ (ownB A' = ownB A ∨ ownB A' = some w.heap.size) := by
  obtain ⟨i, hi, hzz⟩ := Option.map_eq_some_iff.1 info8
  simp only [Prod.mk.injEq] at hzz
  obtain ⟨hz, hs, hby⟩ := hzz
  have hown := ho.2.2.2
  have hA : AllB (l ++ List.replicate m 0) := ho.1.app (AllB.zeros m)
  have hL : (l ++ List.replicate m (0 : Int)).length = n + m := by rw [List.length_append, ho.2.1, List.length_replicate]
  have hzc : (Builtin.zeroCells (Value.int .u8 0).cells m).toList = (List.replicate m (0 : Int)).map (Value.int .u8) := by
    have e : Builtin.zeroCells (Value.int .u8 0).cells m = madeCells #[Value.int .u8 0] m := by simp [Builtin.zeroCells, madeCells, Value.cells]
    rw [e, toList_madeCells_one, List.map_replicate]
  have hlen : ((l ++ List.replicate m (0 : Int)).map (Value.int .u8)).length = n + m := by rw [List.length_map, hL]
  have grown : ∀ (old : Nat),
      Own (w.drew.alloc (.cells ((l.map (Value.int .u8)).toArray ++ Builtin.zeroCells (Value.int .u8 0).cells m ++ Builtin.zeroCells (Value.int .u8 0).cells (grownCap w (n + m) old 5 - (n + m))) 5)) base (some ⟨w.heap.size, 0, none⟩) (n + m) (grownCap w (n + m) old 5) (l ++ List.replicate m 0) := by
    intro old
    have hge := grownCap_ge w (n + m) old 5
    have hcm : grownCap w (n + m) old 5 ≤ maxLen := grownCap_le_maxLen w (n + m) old 5 (by unfold maxLen; omega)
    refine ⟨hA, hL, Nat.le_trans ho.2.2.1 (by simp), ⟨by rw [hlen]; omega, .inr ⟨w.heap.size, _, _, rfl, ho.2.2.1, heap_alloc_new w.drew _, hge, hcm, ?_, ?_⟩⟩⟩
    · simp only [Array.size_append, List.size_toArray, size_zeroCells, List.length_map, ho.2.1]
      simp [Value.cells]
      omega
    · simp only [Array.toList_append, hzc, List.append_assoc]
      rw [← List.append_assoc, ← List.map_append, Nat.mul_one, ← hlen]
      exact List.take_left
  have kept : ∀ o : Obj, w.grownBy (w.drew.alloc o) (ownB A) := fun o => ⟨rfl, rfl, rfl, by simp, fun k hk _ => Below.heap_alloc w.drew _ k hk⟩
  rcases hown.2 with ⟨he, h0⟩ | ⟨g, cap, cur, he, hbg, hg, hnc, hcm, hcs, htake⟩
  · injection he with e1 e2 e3
    subst e1; subst e2; subst e3
    obtain rfl : l = [] := List.eq_nil_of_length_eq_zero ho.2.1
    have hr := Lib.run_append_grow_zeros (P := Try.prog) w 22 3 ty 5 i (.int .u8 0) .i64 .i64 Try.underlying22 Try.underlying3 hi hz none 0 0 [] (by simp [Builtin.firstCells]) m hm (by omega) (by omega) (by omega) (by rw [hby]; omega) (by rw [hby, Nat.zero_add, nextslicecap_zero hm]; omega)
    exact ⟨_, _, _, hr, grown 0, kept _, .inr rfl⟩
  · injection he with e1 e2 e3
    subst e1; subst e3
    by_cases hroom : n + m ≤ c
    · have hst := run_storeCells_at Try.prog g n 5 ((List.replicate m (0 : Int)).map (Value.int .u8)) 0 cur w hg (by simp; omega) (ones _)
      obtain ⟨R, hR⟩ : ∃ R, R = (cur.toList.take n ++ (List.replicate m (0 : Int)).map (Value.int .u8) ++ cur.toList.drop (n + m)).toArray := ⟨_, rfl⟩
      have hst2 : (storeCells ⟨g, n, none⟩ ((List.replicate m (0 : Int)).map (Value.int .u8))).run Try.prog w = .ok () (w.setRow g R) := by
        rw [hR]
        simpa using hst
      have hrun : (Builtin.append_ #[22, 3] ty #[.slice (some ⟨g, 0, none⟩) n c, .int .i64 m]).run Try.prog w = .ok (.slice (some ⟨g, 0, none⟩) (n + m) c) (w.setRow g R) := by
        have hw : IntKind.i64.wrap (m : Int) = m := by rw [IntKind.wrap_i64]; omega
        have hneg : ¬ ((m : Int) < 0) := by omega
        have h48i : ¬ (281474976710656 < (m : Int)) := by omega
        have hns : ¬ (m = 0) := by omega
        rw [← hzc] at hst2
        simp [Builtin.append_, run_underlying Try.underlying22, run_underlying Try.underlying3, sizeOf, typeInfo, zeroValue, hi, hz, hs, hby, asInt, asIntOf, hw, hneg, h48i, hns, hroom, add_none, hst2]
      have hRs : R.size = c := by
        rw [hR]
        simp only [List.size_toArray, List.length_append, List.length_take, List.length_drop, Array.length_toList, List.length_map, List.length_replicate]
        omega
      have hRt : R.toList.take (n + m) = (l ++ List.replicate m (0 : Int)).map (Value.int .u8) := by
        rw [hR]
        rw [Nat.mul_one] at htake
        rw [htake, ← List.map_append, ← hlen]
        exact List.take_left
      exact ⟨_, _, _, hrun, ⟨hA, hL, Nat.le_trans ho.2.2.1 (by simp), ⟨by rw [hlen]; omega, .inr ⟨g, c, R, rfl, hbg, setRow_heap w g cur R 5 _ hg, hroom, hcm, by omega, by rw [Nat.mul_one]; exact hRt⟩⟩⟩, ⟨rfl, rfl, rfl, by simp, fun k _ hk => setRow_other w g k _ (fun e => hk (by simp [ownB, e]))⟩, .inl rfl⟩
    · have holds : ∀ j u, (l.map (Value.int .u8))[j]? = some u → w.drew.cell? ((⟨g, 0, none⟩ : Addr).add j) = some u := fun j u hj => hown.cells (g := g) rfl j u hj
      have hf := run_firstCells_some (P := Try.prog) w.drew i.size n ⟨g, 0, none⟩ n c (l.map (Value.int .u8)) (by simp [hs, ho.2.1]) holds
      have hr := Lib.run_append_grow_zeros (P := Try.prog) w 22 3 ty 5 i (.int .u8 0) .i64 .i64 Try.underlying22 Try.underlying3 hi hz (some ⟨g, 0, none⟩) n c (l.map (Value.int .u8)) hf m hm (by omega) (by omega) (by omega) (by rw [hby]; omega) (growslice_fits (by omega) (by rw [hby]; omega))
      exact ⟨_, _, _, hr, grown c, kept _, .inr rfl⟩
end Go.Proofs.Yteggjmnmlmhkfaa.Kf
