/-
  Texts beneath the proof, one behind the other.
-/
import Derived.Lib.AppendZerosOnto
import Derived.Test.YtldkmobncmfodaaGreatQ6
import Derived.Test.YtldkmobncmfodaaGreatQ4
import Derived.Test.YtldkmobncmfodaaGreatQ5

/-
  What a call leaves that writes blocks of a known set; rows of the call's own beside each other; 'append' of zeros by number.
-/
namespace Go.Proofs.YtldkmobncmfodaaGreat.Kf
open Go.ChangeShapes Go.WideShapes Go.ChangeAt Go.RowKit
open Bytes8 Blk8 Own8 OwnM OwnA
set_option linter.unusedVariables false
set_option maxRecDepth 100000
set_option linter.unusedSimpArgs false

/-- Blocks that were there, but those of F, are as they were. -/
structure KeptF (F : Nat → Prop) (w w' : World) : Prop where
  os : w'.os = w.os
  tape : w'.tape = w.tape
  output : w'.output = w.output
  size : w.heap.size ≤ w'.heap.size
  block : ∀ k, k < w.heap.size → ¬ F k → w'.heap[k]? = w.heap[k]?

/-- F, and what is new since. -/
def Ext (F : Nat → Prop) (w w' : World) (k : Nat) : Prop := F k ∨ (w.heap.size ≤ k ∧ k < w'.heap.size)
def None' (k : Nat) : Prop := False
def One (g : Nat) (k : Nat) : Prop := k = g
/-- All of them are there. -/
def Foot (w : World) (F : Nat → Prop) : Prop := ∀ k, F k → k < w.heap.size
/-- No block is in both. -/
def Off (F G : Nat → Prop) : Prop := ∀ k, F k → ¬ G k

theorem KeptF.refl (F : Nat → Prop) (w : World) : KeptF F w w := ⟨rfl, rfl, rfl, Nat.le_refl _, fun _ _ _ => rfl⟩
theorem KeptF.trans {F G : Nat → Prop} {a b c : World} (h : KeptF F a b) (k : KeptF G b c) (hG : ∀ i, i < a.heap.size → G i → F i) : KeptF F a c :=
  ⟨k.os.trans h.os, k.tape.trans h.tape, k.output.trans h.output, Nat.le_trans h.size k.size, fun i hi hF => (k.block i (Nat.lt_of_lt_of_le hi h.size) (fun hg => hF (hG i hi hg))).trans (h.block i hi hF)⟩
theorem KeptF.then {F : Nat → Prop} {a b c : World} (h : KeptF F a b) (k : KeptF (Ext F a b) b c) : KeptF F a c :=
  h.trans k fun i hi he => by
    rcases he with h1 | h1
    · exact h1
    · omega
theorem KeptF.mono {F G : Nat → Prop} {w w' : World} (h : KeptF F w w') (hG : ∀ i, F i → G i) : KeptF G w w' :=
  ⟨h.os, h.tape, h.output, h.size, fun i hi hg => h.block i hi (fun hf => hg (hG i hf))⟩
theorem KeptF.of_below {F : Nat → Prop} {w w' : World} (h : Below w.heap.size w w') : KeptF F w w' := ⟨h.os, h.tape, h.output, h.size, fun k hk _ => h.block k hk⟩
theorem KeptF.below {F : Nat → Prop} {B : Nat} {w w' : World} (h : KeptF F w w') (hB : B ≤ w.heap.size) (hF : ∀ k, F k → B ≤ k) : Below B w w' :=
  ⟨h.os, h.tape, h.output, h.size, fun k hk => h.block k (by omega) (fun hf => by have := hF k hf; omega)⟩
theorem KeptF.alloc {F : Nat → Prop} {a w : World} (h : KeptF F a w) (o : Obj) : KeptF F a (w.alloc o) :=
  h.trans (G := None') (KeptF.of_below ((Below.refl _ _).alloc (Nat.le_refl _) o)) fun _ _ h => h.elim
theorem KeptF.drew {F : Nat → Prop} {a w : World} (h : KeptF F a w) : KeptF F a w.drew := ⟨h.os, h.tape, h.output, h.size, h.block⟩
theorem KeptF.drewN {F : Nat → Prop} {a w : World} (h : KeptF F a w) (n : Nat) : KeptF F a (w.drewN n) := ⟨h.os, h.tape, h.output, h.size, h.block⟩
theorem KeptF.setCell {F : Nat → Prop} {a w : World} (h : KeptF F a w) {p : Addr} (hp : p.block < a.heap.size → F p.block) (u : Value) : KeptF F a (w.setCell p u) :=
  ⟨h.os, h.tape, h.output, Nat.le_trans h.size (by simp [World.setCell]), fun k hk hF => (Below.heap_setCell _ _ _ _ (fun e => hF (by rw [e]; exact hp (by omega)))).trans (h.block k hk hF)⟩
theorem KeptF.set1 (w : World) (g i : Nat) (u : Value) : KeptF (One g) w (w.setCell ⟨g, i, none⟩ u) := (KeptF.refl (One g) w).setCell (p := ⟨g, i, none⟩) (fun _ => (rfl : g = g)) u
theorem KeptF.grown {F : Nat → Prop} {a w w' : World} {row : Option Nat} (h : KeptF F a w) (hg : w.grownBy w' row) (hr : ∀ k, row = some k → k < a.heap.size → F k) : KeptF F a w' :=
  ⟨hg.os.trans h.os, hg.tape.trans h.tape, hg.output.trans h.output, Nat.le_trans h.size hg.size, fun k hk hF => (hg.block k (Nat.lt_of_lt_of_le hk h.size) (fun e => hF (hr k e.symm hk))).trans (h.block k hk hF)⟩
theorem KeptF.grow {w w' : World} (row : Option Nat) (hg : w.grownBy w' row) : KeptF (fun k => row = some k) w w' := (KeptF.refl _ w).grown hg fun _ h _ => h

theorem Ext.low {F : Nat → Prop} {B : Nat} {w w' : World} (hB : B ≤ w.heap.size) (hF : ∀ k, F k → B ≤ k) : ∀ k, Ext F w w' k → B ≤ k := fun k h => by
  rcases h with h | h
  · exact hF k h
  · omega
theorem Ext.foot {F : Nat → Prop} {w w' : World} (hF : Foot w F) (h : w.heap.size ≤ w'.heap.size) : Foot w' (Ext F w w') := fun k hk => by
  rcases hk with hk | hk
  · exact Nat.lt_of_lt_of_le (hF k hk) h
  · exact hk.2
theorem Ext.off {F G : Nat → Prop} {w w' : World} (h : Off F G) (hG : Foot w G) : Off (Ext F w w') G := fun k hk hg => by
  rcases hk with hk | hk
  · exact h k hk hg
  · have := hG k hg; omega
theorem Ext.off' {F G : Nat → Prop} {w w' : World} (h : Off G F) (hG : Foot w G) : Off G (Ext F w w') := fun k hg hk => by
  rcases hk with hk | hk
  · exact h k hg hk
  · have := hG k hg; omega
theorem Ext.ext {F : Nat → Prop} {a b b2 c : World} (h1 : a.heap.size ≤ b.heap.size) (h2 : b2.heap.size = b.heap.size) (h3 : b.heap.size ≤ c.heap.size) : ∀ k, Ext (Ext F a b) b2 c k → Ext F a c k := fun k hk => by
  rcases hk with (hk | hk) | hk
  · exact .inl hk
  · exact .inr ⟨hk.1, by omega⟩
  · exact .inr ⟨by omega, hk.2⟩
theorem Off.symm {F G : Nat → Prop} (h : Off F G) : Off G F := fun k h1 h2 => h k h2 h1
theorem Foot.kept {F : Nat → Prop} {w w' : World} (h : Foot w F) (hs : w.heap.size ≤ w'.heap.size) : Foot w' F := fun k hk => Nat.lt_of_lt_of_le (h k hk) hs

/-- Where bytes lie, if there are any. -/
def LiesOff (A : Option Addr) (l : List Int) (F : Nat → Prop) : Prop := ∀ b off, A = some ⟨b, off, none⟩ → 0 < l.length → ¬ F b
theorem LiesOff.low {A : Option Addr} {l : List Int} {F : Nat → Prop} {w : World} {B : Nat} (h : Bytes w A l) (hB : w.heap.size ≤ B) (hF : ∀ k, F k → B ≤ k) : LiesOff A l F := fun b off e h0 hf => by
  obtain ⟨b', off', e', hlt, _⟩ := h.2 0 h0
  rw [e] at e'; simp at e'; obtain ⟨rfl, rfl⟩ := e'
  have := hF b hf; omega
theorem Bytes.keptF {F : Nat → Prop} {w w' : World} {A : Option Addr} {l : List Int} (h : Bytes w A l) (hk : KeptF F w w') (hF : LiesOff A l F) : Bytes w' A l := by
  refine ⟨h.1, fun i hi => ?_⟩
  obtain ⟨b, off, e, hlt, hc⟩ := h.2 i hi
  exact ⟨b, off, e, Nat.lt_of_lt_of_le hlt hk.size, (World.cell?_of_block (hk.block b hlt (hF b off e (by omega)))).trans hc⟩
theorem Blk.keptF {F : Nat → Prop} {w w' : World} {g : Nat} {vs : List Value} {T : TypeId} (h : Blk w g vs T) (hk : KeptF F w w') (hF : ¬ F g) : Blk w' g vs T := (hk.block g h.lt hF).trans h
theorem Own.keptF {F : Nat → Prop} {w w' : World} {base n c : Nat} {A : Option Addr} {l : List Int} (h : Own w base A n c l) (hk : KeptF F w w') (hF : ∀ g, ownB A = some g → ¬ F g) : Own w' base A n c l := by
  refine ⟨h.1, h.2.1, Nat.le_trans h.2.2.1 hk.size, h.2.2.2.1, ?_⟩
  rcases h.2.2.2.2 with h1 | ⟨k, cap, cur, h1, h2, h3, h4⟩
  · exact .inl h1
  · refine .inr ⟨k, cap, cur, h1, h2, ?_, h4⟩
    have hk2 : k < w.heap.size := by
      rcases Nat.lt_or_ge k w.heap.size with h | h
      · exact h
      · rw [Array.getElem?_eq_none h] at h3; cases h3
    injection h1 with e1 e2 e3
    subst e1
    rw [hk.block k hk2 (hF k rfl)]; exact h3
theorem Own.block {w : World} {base n c g : Nat} {A : Option Addr} {l : List Int} (h : Own w base A n c l) (hg : ownB A = some g) : base ≤ g ∧ g < w.heap.size := h.lt g (by rw [ownB_eq]; exact hg)

end Go.Proofs.YtldkmobncmfodaaGreat.Kf

/-
  Numbers laid behind bytes: the program's 'with', the document's Nums of a slice that came in.
-/
namespace Go.Proofs.YtldkmobncmfodaaGreat.Yc
open Go.ChangeShapes Go.WideShapes Go.ChangeAt Go.RowKit
open Bytes8 Blk8 Own8 OwnM OwnE OwnA LeA LeAl LeNum LeB LeP RefA RefB Ob Oc Od Oe Rows2 Kf
set_option linter.unusedVariables false
set_option linter.unusedSimpArgs false
set_option maxRecDepth 100000

/-- The numbers up to the k-th. -/
def ints (f : Nat → Int) (k : Nat) : List Int := (List.range k).map f
theorem ints_succ (f : Nat → Int) (k : Nat) : ints f (k + 1) = ints f k ++ [f k] := by simp [ints, List.range_succ]
theorem ints_len (f : Nat → Int) (k : Nat) : (ints f k).length = k := by simp [ints]
theorem ints_nums (f : Nat → Int) (k : Nat) : nums (ints f (k + 1)) = nums (ints f k) ++ lowB (f k) 8 := by rw [ints_succ, nums_snoc]
theorem nums_ints_len (f : Nat → Int) (k : Nat) : (nums (ints f k)).length = 8 * k := by rw [nums_len, ints_len]

theorem InInts.bd {w : World} {a : Option Addr} {n : Nat} {f : Nat → Int} (h : InInts .u64 w a n f) (i : Nat) (hi : i < n) : 0 ≤ f i ∧ f i ≤ 18446744073709551615 := by
  obtain ⟨_, _, _, _, _, hw⟩ := h i hi
  exact bounds_u64 hw
theorem InInts.keptF {k : IntKind} {w w' : World} {a : Option Addr} {n : Nat} {f : Nat → Int} {F : Nat → Prop} (h : InInts k w a n f) (hk : KeptF F w w') (hF : ∀ b off, a = some ⟨b, off, none⟩ → ¬ F b) : InInts k w' a n f := fun i hi => by
  obtain ⟨b, off, e, h1, h2, h3⟩ := h i hi
  exact ⟨b, off, e, Nat.lt_of_lt_of_le h1 hk.size, (World.cell?_of_block (hk.block b h1 (hF b off e))).trans h2, h3⟩


/-- The block of a slice, as a set. -/
abbrev At (A : Option Addr) (k : Nat) : Prop := ownB A = some k
/-- What is told by a call that lays numbers behind bytes of the caller's own. -/
def Laid (base : Nat) (A : Option Addr) (m : List Int) (n : Nat) (w : World) (e : Ending) (w' : World) : Prop :=
  ∃ A' c', e = .returned (.slice A' n c') ∧ Own w' base A' n c' m ∧ KeptF (At A) w w' ∧ (ownB A' = ownB A ∨ ∃ g, w.heap.size ≤ g ∧ ownB A' = some g)
theorem Laid.below {base : Nat} {w w' : World} {A : Option Addr} {n c : Nat} {l : List Int} (ho : Own w base A n c l) (hk : KeptF (At A) w w') : Below base w w' :=
  hk.below ho.2.2.1 fun k hk => (Own.block ho hk).1

set_option maxHeartbeats 1000000 in
theorem rnums_in (Ai : Option Addr) (n cap : Nat) (f : Nat → Int) (w : World) (hi : InInts .u64 w Ai n f) (hmax : n ≤ 100000) :
    Calls Tryz.prog 154 #[.slice Ai n cap] w fun e w' => ∃ A c, e = .returned (.slice A (8 * n) c) ∧ Own w' w.heap.size A (8 * n) c (nums (ints f n)) ∧ Below w.heap.size w w' := by
  have HI := Lib.hid hi
  clear hi
  go_enter Tryz.func154, Tryz.ntmps154
  go_wp2
  go_loopw [3, 4] (fun s i wr => ∃ (k : Nat) (A : Option Addr) (c : Nat), k ≤ n ∧ i = .int .i64 (k : Int) ∧ s = .slice A (8 * k) c ∧ Hid (Own wr w.heap.size A (8 * k) c (nums (ints f k))) ∧ Hid (Below w.heap.size w wr)) (fun _ i _ => n - (intOf i).toNat)
  case atStart => exact ⟨0, none, 0, Nat.zero_le _, rfl, rfl, Own.nil w _ (Nat.le_refl _), Below.refl _ _⟩
  case round =>
    obtain ⟨k, A, c, hk, rfl, rfl, ho, hbel⟩ := hrel
    by_cases hlt2 : k < n
    · obtain ⟨b, off, rfl, hb, hc, hw⟩ := (HI.out.below hbel.out) k hlt2
      obtain ⟨x0, x1⟩ := bounds_u64 hw
      have HN := Lib.hid (ints_nums f k)
      have hsz := hbel.out.size
      generalize f k = x at *
      have HLo := Lib.hid fun (W : World) => rlow_at x 8 8 W x0 x1 (by decide) rfl
      go_wp2_with (first | (go_at_call 153; (with_reducible refine (HLo.out _).mono ?_); rintro e w2 ⟨A2, c2, rfl, ho2, hbel2⟩; have HO2 := Lib.hid ho2; have HB2 := Lib.hid hbel2; clear ho2 hbel2) | (at_builtin; refine wpList_append_bytes rfl (.tmp 11) (.tmp 16) rfl w.heap.size A (8 * k) c (nums (ints f k)) rfl (ho.out.kept HB2.out (Nat.le_refl _)) A2 8 c2 _ rfl HO2.out.bytes (lowB_len _ _) (by omega) ?_; intro A3 c3 w3 ho3 hbel3; have HO3 := Lib.hid ho3; have HB3 := Lib.hid hbel3; clear ho3 hbel3))
      go_roundw
      case rel =>
        refine ⟨k + 1, A3, c3, by omega, by go_num, rfl, ?_, Lib.hid ((hbel.out.trans (HB2.out.mono hsz)).trans HB3.out)⟩
        rw [HN.out]
        exact HO3
      case measure => simp [intOf]; omega
    · obtain rfl : k = n := by omega
      go_wp2
      go_ret
      exact ⟨A, c, rfl, ho.out, hbel.out⟩

/-! ## numbers of a literal -/
/-! ## pairs of numbers that came in -/
def In2 (w : World) (a : Option Addr) (n : Nat) (f g : Nat → Int) : Prop :=
  ∀ i, i < n → ∃ b off, a = some ⟨b, off, none⟩ ∧ b < w.heap.size ∧ w.cell? ⟨b, off + i * 2, none⟩ = some (.int .u64 (f i)) ∧ w.cell? ⟨b, off + i * 2 + 1, none⟩ = some (.int .u64 (g i)) ∧ (0 ≤ f i ∧ f i ≤ 18446744073709551615) ∧ (0 ≤ g i ∧ g i ≤ 18446744073709551615)
theorem In2.below {w w' : World} {a : Option Addr} {n : Nat} {f g : Nat → Int} {B : Nat} (h : In2 w a n f g) (hb : Below B w w') (hB : ∀ b off, a = some ⟨b, off, none⟩ → b < B) : In2 w' a n f g := fun i hi => by
  obtain ⟨b, off, e, h1, h2, h3, h4⟩ := h i hi
  have hlt := hB b off e
  exact ⟨b, off, e, Nat.lt_of_lt_of_le h1 hb.size, (hb.cell (p := ⟨b, off + i * 2, none⟩) hlt).trans h2, (hb.cell (p := ⟨b, off + i * 2 + 1, none⟩) hlt).trans h3, h4⟩
theorem In2.keep {w w' : World} {a : Option Addr} {n : Nat} {f g : Nat → Int} (h : In2 w a n f g) (hb : Below w.heap.size w w') : In2 w' a n f g := fun i hi => by
  obtain ⟨b, off, e, h1, h2, h3, h4⟩ := h i hi
  exact ⟨b, off, e, Nat.lt_of_lt_of_le h1 hb.size, (hb.cell (p := ⟨b, off + i * 2, none⟩) h1).trans h2, (hb.cell (p := ⟨b, off + i * 2 + 1, none⟩) h1).trans h3, h4⟩
/-- The pairs up to the k-th, one number behind the other. -/
def prs (f g : Nat → Int) (k : Nat) : List Int := (List.range k).flatMap fun i => [f i, g i]
theorem prs_zero (f g : Nat → Int) : prs f g 0 = [] := rfl
theorem prs_succ (f g : Nat → Int) (k : Nat) : prs f g (k + 1) = prs f g k ++ [f k, g k] := by simp [prs, List.range_succ, List.flatMap_append]
theorem prs_len (f g : Nat → Int) (k : Nat) : (prs f g k).length = 2 * k := by
  induction k with
  | zero => rfl
  | succ k ih => rw [prs_succ, List.length_append, ih]; simp; omega
theorem nums_prs (f g : Nat → Int) (k : Nat) : nums (prs f g (k + 1)) = nums (prs f g k) ++ nums [f k, g k] := by rw [prs_succ, nums_app]
theorem nums_prs_len (f g : Nat → Int) (k : Nat) : (nums (prs f g k)).length = 16 * k := by rw [nums_len, prs_len]; omega

/-! ## room made -/
end Go.Proofs.YtldkmobncmfodaaGreat.Yc

/-
  What stands at a place, for entries, arrays, tables: plain.
-/
namespace Go.Proofs.YtldkmobncmfodaaGreat.Yp
open Go.ChangeShapes Go.WideShapes Go.ChangeAt Go.RowKit
open Bytes8 Blk8 LeNum Ob Yc
set_option linter.unusedVariables false
set_option linter.unusedSimpArgs false
set_option maxRecDepth 100000

/-- What is wrong with the object at a place: its kind, its rows of so many bytes each behind so many. -/
def ecode (l : List Int) (a : Nat) (k : Int) (ah ea : Nat) : Int :=
  if code l a ≠ 0 then code l a else if kindL l a ≠ k then 4 else if (bodyL l a).length < ah + ea ∨ (bodyL l a).length % ea ≠ 0 then 5 else 0
/-- Each number is above the one ahead. -/
def risB (f : Nat → Int) : Nat → Bool
  | 0 => true
  | 1 => true
  | n + 2 => risB f (n + 1) && decide (f n < f (n + 1))
theorem risB_succ (f : Nat → Int) (n : Nat) (h : 0 < n) : risB f (n + 1) = (risB f n && decide (f (n - 1) < f n)) := by
  cases n with
  | zero => omega
  | succ n => rfl
theorem risB_mono {f : Nat → Int} {n m : Nat} (h : risB f n = true) (hm : m ≤ n) : risB f m = true := by
  induction n with
  | zero => obtain rfl : m = 0 := by omega
            exact h
  | succ n ih =>
    rcases Nat.lt_or_ge m (n + 1) with h1 | h1
    · refine ih ?_ (by omega)
      cases n with
      | zero => rfl
      | succ n => rw [risB] at h; exact (Bool.and_eq_true_iff.1 h).1
    · obtain rfl : m = n + 1 := by omega
      exact h
/-- An entry's numbers. -/
def itA (bd : List Int) (i : Nat) : Int := u8 bd (48 + 16 * i)
def itH (bd : List Int) (i : Nat) : Int := u8 bd (48 + 16 * i + 8)
def itN (bd : List Int) : Nat := (bd.length - 48) / 16
def itK (bd : List Int) (i : Nat) : Int := if i < 16 then bd.getD (24 + i) 0 else 0
def entC0 (l : List Int) (a : Nat) : Int :=
  if ecode l a 3 48 16 ≠ 0 then ecode l a 3 48 16 else if u8 (bodyL l a) 0 = 0 then 13 else if risB (itA (bodyL l a)) (itN (bodyL l a)) then 0 else 11
theorem itK_ok {bd : List Int} (h : AllB bd) : IdOk (itK bd) := fun i => by
  unfold itK
  split
  · have := h.at_ (24 + i)
    omega
  · omega
theorem itK_L (bd : List Int) (h : 40 ≤ bd.length) : idL (itK bd) = (bd.drop 24).take 16 := by
  apply List.ext_getElem
  · simp [idL]; omega
  · intro i h1 h2
    have h16 : i < 16 := h1
    rw [List.getElem_take, List.getElem_drop]
    have e : itK bd i = bd[24 + i]'(by omega) := by
      unfold itK
      rw [if_pos h16, List.getD_eq_getElem?_getD, List.getElem?_eq_getElem (by omega)]; rfl
    rw [← e]
    unfold idL
    rcases i with _ | _ | _ | _ | _ | _ | _ | _ | _ | _ | _ | _ | _ | _ | _ | _ | i
    all_goals first | rfl | omega
theorem ecode_there {l : List Int} {a n : Nat} {k : Int} {ah ea : Nat} (hL : l.length = n) (h : ecode l a k ah ea = 0) : code l a = 0 ∧ kindL l a = k ∧ ah + ea ≤ (bodyL l a).length ∧ (bodyL l a).length % ea = 0 ∧ (bodyL l a).length ≤ n := by
  unfold ecode at h
  have h0 : code l a = 0 := by
    by_cases h0 : code l a = 0
    · exact h0
    · rw [if_pos h0] at h; exact h
  rw [if_neg (by omega)] at h
  have hk : kindL l a = k := by
    by_cases hk : kindL l a = k
    · exact hk
    · rw [if_pos hk] at h; omega
  rw [if_neg (by omega)] at h
  split at h
  · omega
  · refine ⟨h0, hk, by omega, by omega, ?_⟩
    unfold bodyL
    simp
    omega
theorem body_all {l : List Int} {a : Nat} (h : AllB l) : AllB (bodyL l a) := (h.drop _).take _
def taA (bd : List Int) (i : Nat) : Int := u8 bd (16 * i)
def taB (bd : List Int) (i : Nat) : Int := u8 bd (16 * i + 8)
/-- .. of a table of that kind. -/
def isTab (k : Int) : Bool := k == 4 || k == 5
end Go.Proofs.YtldkmobncmfodaaGreat.Yp
