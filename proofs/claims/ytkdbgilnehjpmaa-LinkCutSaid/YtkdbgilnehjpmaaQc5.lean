/-
  Texts beneath the proof, one behind the other.
-/
import Derived.Lib.AppendZerosOnto
import Derived.Deep.RegionHeld3
import Derived.IntWalk
import Derived.Deep.MidRow
import Derived.Deep.CutBlock
import Derived.Laws.ResultCell
import Derived.Test.YtkdbgilnehjpmaaQc4
import Derived.Test.YtkdbgilnehjpmaaQc2
import Derived.Test.YtkdbgilnehjpmaaQc3
/-
  What a call leaves that writes blocks of a known set; rows of the call's own beside each other; 'append' of zeros by number.
-/
namespace Go.Proofs.Ytkdbgilnehjpmaa.Kf
open Go.ChangeShapes Go.WideShapes Go.ChangeAt Go.RowKit
open Bytes8 Blk8 Own8 OwnM OwnA
set_option linter.unusedVariables false
set_option maxRecDepth 100000
set_option linter.unusedSimpArgs false
/-- Blocks that were there, but those of F, are as they were. -/
structure KeptF (F : Nat → Prop) (w w' : World) : Prop where
  os : w'.os = w.os
  tape : w'.tape = w.tape
  output : w'.output = w.output
  size : w.heap.size ≤ w'.heap.size
  block : ∀ k, k < w.heap.size → ¬ F k → w'.heap[k]? = w.heap[k]?
def None' (k : Nat) : Prop := False
def One (g : Nat) (k : Nat) : Prop := k = g
theorem KeptF.refl (F : Nat → Prop) (w : World) : KeptF F w w := ⟨rfl, rfl, rfl, Nat.le_refl _, fun _ _ _ => rfl⟩
theorem KeptF.trans {F G : Nat → Prop} {a b c : World} (h : KeptF F a b) (k : KeptF G b c) (hG : ∀ i, i < a.heap.size → G i → F i) : KeptF F a c :=
  ⟨k.os.trans h.os, k.tape.trans h.tape, k.output.trans h.output, Nat.le_trans h.size k.size, fun i hi hF => (k.block i (Nat.lt_of_lt_of_le hi h.size) (fun hg => hF (hG i hi hg))).trans (h.block i hi hF)⟩
theorem KeptF.mono {F G : Nat → Prop} {w w' : World} (h : KeptF F w w') (hG : ∀ i, F i → G i) : KeptF G w w' :=
  ⟨h.os, h.tape, h.output, h.size, fun i hi hg => h.block i hi (fun hf => hg (hG i hf))⟩
theorem KeptF.of_below {F : Nat → Prop} {w w' : World} (h : Below w.heap.size w w') : KeptF F w w' := ⟨h.os, h.tape, h.output, h.size, fun k hk _ => h.block k hk⟩
theorem KeptF.below {F : Nat → Prop} {B : Nat} {w w' : World} (h : KeptF F w w') (hB : B ≤ w.heap.size) (hF : ∀ k, F k → B ≤ k) : Below B w w' :=
  ⟨h.os, h.tape, h.output, h.size, fun k hk => h.block k (by omega) (fun hf => by have := hF k hf; omega)⟩
theorem KeptF.alloc {F : Nat → Prop} {a w : World} (h : KeptF F a w) (o : Obj) : KeptF F a (w.alloc o) :=
  h.trans (G := None') (KeptF.of_below ((Below.refl _ _).alloc (Nat.le_refl _) o)) fun _ _ h => h.elim
theorem KeptF.drew {F : Nat → Prop} {a w : World} (h : KeptF F a w) : KeptF F a w.drew := ⟨h.os, h.tape, h.output, h.size, h.block⟩
theorem KeptF.setCell {F : Nat → Prop} {a w : World} (h : KeptF F a w) {p : Addr} (hp : p.block < a.heap.size → F p.block) (u : Value) : KeptF F a (w.setCell p u) :=
  ⟨h.os, h.tape, h.output, Nat.le_trans h.size (by simp [World.setCell]), fun k hk hF => (Below.heap_setCell _ _ _ _ (fun e => hF (by rw [e]; exact hp (by omega)))).trans (h.block k hk hF)⟩
theorem KeptF.set1 (w : World) (g i : Nat) (u : Value) : KeptF (One g) w (w.setCell ⟨g, i, none⟩ u) := (KeptF.refl (One g) w).setCell (p := ⟨g, i, none⟩) (fun _ => (rfl : g = g)) u
theorem KeptF.grown {F : Nat → Prop} {a w w' : World} {row : Option Nat} (h : KeptF F a w) (hg : w.grownBy w' row) (hr : ∀ k, row = some k → k < a.heap.size → F k) : KeptF F a w' :=
  ⟨hg.os.trans h.os, hg.tape.trans h.tape, hg.output.trans h.output, Nat.le_trans h.size hg.size, fun k hk hF => (hg.block k (Nat.lt_of_lt_of_le hk h.size) (fun e => hF (hr k e.symm hk))).trans (h.block k hk hF)⟩
theorem KeptF.grow {w w' : World} (row : Option Nat) (hg : w.grownBy w' row) : KeptF (fun k => row = some k) w w' := (KeptF.refl _ w).grown hg fun _ h _ => h
theorem Blk.keptF {F : Nat → Prop} {w w' : World} {g : Nat} {vs : List Value} {T : TypeId} (h : Blk w g vs T) (hk : KeptF F w w') (hF : ¬ F g) : Blk w' g vs T := (hk.block g h.lt hF).trans h
theorem Own.keptF {F : Nat → Prop} {w w' : World} {base n c : Nat} {A : Option Addr} {l : List Int} (h : Own w base A n c l) (hk : KeptF F w w') (hF : ∀ g, ownB A = some g → ¬ F g) : Own w' base A n c l := by
  refine ⟨h.1, h.2.1, Nat.le_trans h.2.2.1 hk.size, h.2.2.2.1, ?_⟩
  rcases h.2.2.2.2 with h1 | ⟨k, cap, cur, h1, h2, h3, h4⟩
  · exact .inl h1
  · refine .inr ⟨k, cap, cur, h1, h2, ?_, h4⟩
    have hk2 : k < w.heap.size := by
      rcases Nat.lt_or_ge k w.heap.size with h | h
      · exact h
      · rw [Array.getElem?_eq_none h] at h3; cases h3
    injection h1 with e1 e2 e3
    subst e1
    rw [hk.block k hk2 (hF k rfl)]; exact h3
end Go.Proofs.Ytkdbgilnehjpmaa.Kf
/-
  Numbers laid behind bytes: the program's 'with', the document's Nums of a slice that came in.
-/
namespace Go.Proofs.Ytkdbgilnehjpmaa.Yc
open Go.ChangeShapes Go.WideShapes Go.ChangeAt Go.RowKit
open Bytes8 Blk8 Own8 OwnM OwnE OwnA LeA LeAl LeNum LeB LeP RefA RefB Ob Oc Od Oe Rows2 Kf
set_option linter.unusedVariables false
set_option linter.unusedSimpArgs false
set_option maxRecDepth 100000
/-- The numbers up to the k-th. -/
def ints (f : Nat → Int) (k : Nat) : List Int := (List.range k).map f
theorem ints_succ (f : Nat → Int) (k : Nat) : ints f (k + 1) = ints f k ++ [f k] := by simp [ints, List.range_succ]
theorem ints_len (f : Nat → Int) (k : Nat) : (ints f k).length = k := by simp [ints]
theorem ints_nums (f : Nat → Int) (k : Nat) : nums (ints f (k + 1)) = nums (ints f k) ++ lowB (f k) 8 := by rw [ints_succ, nums_snoc]
theorem nums_ints_len (f : Nat → Int) (k : Nat) : (nums (ints f k)).length = 8 * k := by rw [nums_len, ints_len]
set_option maxHeartbeats 1000000 in
theorem rnums_in (Ai : Option Addr) (n cap : Nat) (f : Nat → Int) (w : World) (hi : InInts .u64 w Ai n f) (hmax : n ≤ 100000) :
    Calls Try.prog 44 #[.slice Ai n cap] w fun e w' => ∃ A c, e = .returned (.slice A (8 * n) c) ∧ Own w' w.heap.size A (8 * n) c (nums (ints f n)) ∧ Below w.heap.size w w' := by
  have HI := Lib.hid hi
  clear hi
  go_enter Try.func44, Try.ntmps44
  go_wp2
  go_loopw [3, 4] (fun s i wr => ∃ (k : Nat) (A : Option Addr) (c : Nat), k ≤ n ∧ i = .int .i64 (k : Int) ∧ s = .slice A (8 * k) c ∧ Hid (Own wr w.heap.size A (8 * k) c (nums (ints f k))) ∧ Hid (Below w.heap.size w wr)) (fun _ i _ => n - (intOf i).toNat)
  case atStart => exact ⟨0, none, 0, Nat.zero_le _, rfl, rfl, Own.nil w _ (Nat.le_refl _), Below.refl _ _⟩
  case round =>
    obtain ⟨k, A, c, hk, rfl, rfl, ho, hbel⟩ := hrel
    by_cases hlt2 : k < n
    · obtain ⟨b, off, rfl, hb, hc, hw⟩ := (HI.out.below hbel.out) k hlt2
      obtain ⟨x0, x1⟩ := bounds_u64 hw
      have HN := Lib.hid (ints_nums f k)
      have hsz := hbel.out.size
      generalize f k = x at *
      have HLo := Lib.hid fun (W : World) => rlow_at x 8 8 W x0 x1 (by decide) rfl
      go_wp2_with (first | (go_at_call 43; (with_reducible refine (HLo.out _).mono ?_); rintro e w2 ⟨A2, c2, rfl, ho2, hbel2⟩; have HO2 := Lib.hid ho2; have HB2 := Lib.hid hbel2; clear ho2 hbel2) | (at_builtin; refine wpList_append_bytes rfl (.tmp 11) (.tmp 16) rfl w.heap.size A (8 * k) c (nums (ints f k)) rfl (ho.out.kept HB2.out (Nat.le_refl _)) A2 8 c2 _ rfl HO2.out.bytes (lowB_len _ _) (by omega) ?_; intro A3 c3 w3 ho3 hbel3; have HO3 := Lib.hid ho3; have HB3 := Lib.hid hbel3; clear ho3 hbel3))
      go_roundw
      case rel =>
        refine ⟨k + 1, A3, c3, by omega, by go_num, rfl, ?_, Lib.hid ((hbel.out.trans (HB2.out.mono hsz)).trans HB3.out)⟩
        rw [HN.out]
        exact HO3
      case measure => simp [intOf]; omega
    · obtain rfl : k = n := by omega
      go_wp2
      go_ret
      exact ⟨A, c, rfl, ho.out, hbel.out⟩
/-! ## numbers of a literal -/
/-! ## pairs of numbers that came in -/
def In2 (w : World) (a : Option Addr) (n : Nat) (f g : Nat → Int) : Prop :=
  ∀ i, i < n → ∃ b off, a = some ⟨b, off, none⟩ ∧ b < w.heap.size ∧ w.cell? ⟨b, off + i * 2, none⟩ = some (.int .u64 (f i)) ∧ w.cell? ⟨b, off + i * 2 + 1, none⟩ = some (.int .u64 (g i)) ∧ (0 ≤ f i ∧ f i ≤ 18446744073709551615) ∧ (0 ≤ g i ∧ g i ≤ 18446744073709551615)
theorem In2.keep {w w' : World} {a : Option Addr} {n : Nat} {f g : Nat → Int} (h : In2 w a n f g) (hb : Below w.heap.size w w') : In2 w' a n f g := fun i hi => by
  obtain ⟨b, off, e, h1, h2, h3, h4⟩ := h i hi
  exact ⟨b, off, e, Nat.lt_of_lt_of_le h1 hb.size, (hb.cell (p := ⟨b, off + i * 2, none⟩) h1).trans h2, (hb.cell (p := ⟨b, off + i * 2 + 1, none⟩) h1).trans h3, h4⟩
/-- The pairs up to the k-th, one number behind the other. -/
def prs (f g : Nat → Int) (k : Nat) : List Int := (List.range k).flatMap fun i => [f i, g i]
theorem prs_zero (f g : Nat → Int) : prs f g 0 = [] := rfl
theorem prs_succ (f g : Nat → Int) (k : Nat) : prs f g (k + 1) = prs f g k ++ [f k, g k] := by simp [prs, List.range_succ, List.flatMap_append]
theorem prs_len (f g : Nat → Int) (k : Nat) : (prs f g k).length = 2 * k := by
  induction k with
  | zero => rfl
  | succ k ih => rw [prs_succ, List.length_append, ih]; simp; omega
theorem nums_prs (f g : Nat → Int) (k : Nat) : nums (prs f g (k + 1)) = nums (prs f g k) ++ nums [f k, g k] := by rw [prs_succ, nums_app]
theorem nums_prs_len (f g : Nat → Int) (k : Nat) : (nums (prs f g k)).length = 16 * k := by rw [nums_len, prs_len]; omega
/-! ## room made -/
end Go.Proofs.Ytkdbgilnehjpmaa.Yc
/-
  What stands at a place, for entries, arrays, tables: plain.
-/
namespace Go.Proofs.Ytkdbgilnehjpmaa.Yp
open Go.ChangeShapes Go.WideShapes Go.ChangeAt Go.RowKit
open Bytes8 Blk8 LeNum Ob Yc
set_option linter.unusedVariables false
set_option linter.unusedSimpArgs false
set_option maxRecDepth 100000
/-- What is wrong with the object at a place: its kind, its rows of so many bytes each behind so many. -/
def ecode (l : List Int) (a : Nat) (k : Int) (ah ea : Nat) : Int :=
  if code l a ≠ 0 then code l a else if kindL l a ≠ k then 4 else if (bodyL l a).length < ah + ea ∨ (bodyL l a).length % ea ≠ 0 then 5 else 0
theorem ecode_there {l : List Int} {a n : Nat} {k : Int} {ah ea : Nat} (hL : l.length = n) (h : ecode l a k ah ea = 0) : code l a = 0 ∧ kindL l a = k ∧ ah + ea ≤ (bodyL l a).length ∧ (bodyL l a).length % ea = 0 ∧ (bodyL l a).length ≤ n := by
  unfold ecode at h
  have h0 : code l a = 0 := by
    by_cases h0 : code l a = 0
    · exact h0
    · rw [if_pos h0] at h; exact h
  rw [if_neg (by omega)] at h
  have hk : kindL l a = k := by
    by_cases hk : kindL l a = k
    · exact hk
    · rw [if_pos hk] at h; omega
  rw [if_neg (by omega)] at h
  split at h
  · omega
  · refine ⟨h0, hk, by omega, by omega, ?_⟩
    unfold bodyL
    simp
    omega
theorem body_all {l : List Int} {a : Nat} (h : AllB l) : AllB (bodyL l a) := (h.drop _).take _
/-- Numbers two by two. -/
def arN (bd : List Int) : Nat := (bd.length - 8) / 8
def arF (bd : List Int) (i : Nat) : Int := u8 bd (8 + 8 * i)
end Go.Proofs.Ytkdbgilnehjpmaa.Yp
/-
  What 'PutData' and 'PutField' lay: the document's own.
-/
namespace Go.Proofs.Ytkdbgilnehjpmaa.Oj
open Go.ChangeShapes Go.WideShapes Go.ChangeAt Go.RowKit
open Bytes8 Blk8 Own8 OwnM OwnE LeA LeAl LeNum LeB LeP RefA RefB Ob Oc Od Oe
set_option linter.unusedVariables false
set_option maxRecDepth 100000
set_option linter.unusedSimpArgs false
theorem six_I {x0 x1 x2 x3 x4 x5 : Int} (h0 : 0 ≤ x0 ∧ x0 ≤ 18446744073709551615) (h1 : 0 ≤ x1 ∧ x1 ≤ 18446744073709551615) (h2 : 0 ≤ x2 ∧ x2 ≤ 18446744073709551615) (h3 : 0 ≤ x3 ∧ x3 ≤ 18446744073709551615) (h4 : 0 ≤ x4 ∧ x4 ≤ 18446744073709551615) (h5 : 0 ≤ x5 ∧ x5 ≤ 18446744073709551615) : I64 [x0, x1, x2, x3, x4, x5] := by
  intro v hv
  simp at hv
  rcases hv with rfl | rfl | rfl | rfl | rfl | rfl <;> assumption
theorem three_I {x0 x1 x2 : Int} (h0 : 0 ≤ x0 ∧ x0 ≤ 18446744073709551615) (h1 : 0 ≤ x1 ∧ x1 ≤ 18446744073709551615) (h2 : 0 ≤ x2 ∧ x2 ≤ 18446744073709551615) : I64 [x0, x1, x2] := by
  intro v hv
  simp at hv
  rcases hv with rfl | rfl | rfl <;> assumption
theorem rnums_new (l : List Int) (n m : Nat) (w : World) (g : Nat) (hg : w.heap.size = g) (hv : I64 l) (hn : l.length = n) (hm : 8 * n = m) (hmax : n ≤ 1000) :
    Calls Try.prog 44 #[.slice (some ⟨g, 0, none⟩) n n] (w.alloc (.cells (l.map (Value.int .u64)).toArray 36)) fun e w' => ∃ A c, e = .returned (.slice A m c) ∧ Own w' w.heap.size A m c (nums l) ∧ Below w.heap.size w w' := by
  subst hg hm
  have h := rnums_any w.heap.size n n l 36 _ (Blk.new w _ _) hv hn hmax
  exact h.mono fun e w' ⟨A, c, h1, h2, h3⟩ => ⟨A, c, h1, Own.base h2 (by simp), ((Below.refl w.heap.size w).alloc (Nat.le_refl _) _).trans (h3.mono (by simp))⟩
theorem rnums6 (x0 x1 x2 x3 x4 x5 : Int) (w : World) (g : Nat) (hg : w.heap.size = g) (hv : I64 [x0, x1, x2, x3, x4, x5]) :
    Calls Try.prog 44 #[.slice (some ⟨g, 0, none⟩) 6 6] (w.alloc (.cells #[.int .u64 x0, .int .u64 x1, .int .u64 x2, .int .u64 x3, .int .u64 x4, .int .u64 x5] 36)) fun e w' => ∃ A c, e = .returned (.slice A 48 c) ∧ Own w' w.heap.size A 48 c (nums [x0, x1, x2, x3, x4, x5]) ∧ Below w.heap.size w w' :=
  rnums_new [x0, x1, x2, x3, x4, x5] 6 48 w g hg hv rfl rfl (by decide)
theorem rnums3 (x0 x1 x2 : Int) (w : World) (g : Nat) (hg : w.heap.size = g) (hv : I64 [x0, x1, x2]) :
    Calls Try.prog 44 #[.slice (some ⟨g, 0, none⟩) 3 3] (w.alloc (.cells #[.int .u64 x0, .int .u64 x1, .int .u64 x2] 36)) fun e w' => ∃ A c, e = .returned (.slice A 24 c) ∧ Own w' w.heap.size A 24 c (nums [x0, x1, x2]) ∧ Below w.heap.size w w' :=
  rnums_new [x0, x1, x2] 3 24 w g hg hv rfl rfl (by decide)
theorem rnumsd6 (x0 x1 x2 x3 x4 x5 : Int) (w : World) (g : Nat) (hg : w.heap.size = g) (hv : I64 [x0, x1, x2, x3, x4, x5]) :
    Calls Try.prog 44 #[.slice (some ⟨g, 0, none⟩) 6 6] (w.alloc (.cells #[.int .u64 x0, .int .u64 x1, .int .u64 x2, .int .u64 x3, .int .u64 x4, .int .u64 x5] 36)).drew fun e w' => ∃ A c, e = .returned (.slice A 48 c) ∧ Own w' w.heap.size A 48 c (nums [x0, x1, x2, x3, x4, x5]) ∧ Below w.heap.size w w' :=
  (rnums6 x0 x1 x2 x3 x4 x5 w.drew g hg hv).mono fun e w' ⟨A, c, h1, h2, h3⟩ => ⟨A, c, h1, h2, (Below.refl w.heap.size w).drew.trans h3⟩
theorem rnumsd3 (x0 x1 x2 : Int) (w : World) (g : Nat) (hg : w.heap.size = g) (hv : I64 [x0, x1, x2]) :
    Calls Try.prog 44 #[.slice (some ⟨g, 0, none⟩) 3 3] (w.alloc (.cells #[.int .u64 x0, .int .u64 x1, .int .u64 x2] 36)).drew fun e w' => ∃ A c, e = .returned (.slice A 24 c) ∧ Own w' w.heap.size A 24 c (nums [x0, x1, x2]) ∧ Below w.heap.size w w' :=
  (rnums3 x0 x1 x2 w.drew g hg hv).mono fun e w' ⟨A, c, h1, h2, h3⟩ => ⟨A, c, h1, h2, (Below.refl w.heap.size w).drew.trans h3⟩
abbrev dataV (x0 x1 x2 x3 x4 x5 : Int) (A : Option Addr) (n c : Nat) : Value := .agg #[.int .u64 x0, .int .u64 x1, .int .u64 x2, .int .u64 x3, .int .u64 x4, .int .u64 x5, .slice A n c]
abbrev fieldV (x0 x1 x2 : Int) (A : Option Addr) (n c : Nat) : Value := .agg #[.int .u64 x0, .int .u64 x1, .int .u64 x2, .slice A n c]
set_option maxHeartbeats 4000000 in
theorem rputData_any (x0 x1 x2 x3 x4 x5 : Int) (A : Option Addr) (l : List Int) (n cap : Nat) (w : World) (hb : Bytes w A l) (hL : l.length = n) (hn : n ≤ 900000) (hv : I64 [x0, x1, x2, x3, x4, x5]) :
    Calls Try.prog 58 #[dataV x0 x1 x2 x3 x4 x5 A n cap] w (Owned (objB 1 (nums [x0, x1, x2, x3, x4, x5] ++ l)) (16 + (48 + n) + padN (48 + n)) w) := by
  have HN := Lib.hid fun (W : World) (g : Nat) (hg : W.heap.size = g) => rnumsd6 x0 x1 x2 x3 x4 x5 W g hg hv
  have HL := Lib.hid hL
  have HB := Lib.hid hb
  have HP := Lib.hid fun (A2 : Option Addr) (c2 : Nat) (W : World) (h : Bytes W A2 (nums [x0, x1, x2, x3, x4, x5] ++ l)) => rput_yes 1 A2 (nums [x0, x1, x2, x3, x4, x5] ++ l) (48 + n) c2 W (by decide) h (by rw [List.length_append, nums_len, hL]; rfl) (by omega)
  unfold Owned at HP
  have b0 := Lib.hid ((Below.refl w.heap.size w).alloc (Nat.le_refl _) (.cells #[.int .u64 x0, .int .u64 x1, .int .u64 x2, .int .u64 x3, .int .u64 x4, .int .u64 x5, .slice A n cap] 135))
  have R0 := Lib.hid (Blk.new w [.int .u64 x0, .int .u64 x1, .int .u64 x2, .int .u64 x3, .int .u64 x4, .int .u64 x5, .slice A n cap] 135)
  have u0 := R0.out.drew.cell (i := 0) rfl; have u1 := R0.out.drew.cell (i := 1) rfl; have u2 := R0.out.drew.cell (i := 2) rfl; have u3 := R0.out.drew.cell (i := 3) rfl; have u4 := R0.out.drew.cell (i := 4) rfl; have u5 := R0.out.drew.cell (i := 5) rfl; have u6 := R0.out.drew.cell (i := 6) rfl
  generalize nums [x0, x1, x2, x3, x4, x5] = N at *
  generalize padN (48 + n) = p at *
  clear hb hL hv
  go_enter Try.func58, Try.ntmps58
  go_wp2
  go_region_held3 (fun w' => w'.cell? ⟨w.heap.size, 0, none⟩ = some (.int .u64 x0) ∧ w'.cell? ⟨w.heap.size, 1, none⟩ = some (.int .u64 x1) ∧ w'.cell? ⟨w.heap.size, 2, none⟩ = some (.int .u64 x2) ∧ w'.cell? ⟨w.heap.size, 3, none⟩ = some (.int .u64 x3) ∧ w'.cell? ⟨w.heap.size, 4, none⟩ = some (.int .u64 x4) ∧ w'.cell? ⟨w.heap.size, 5, none⟩ = some (.int .u64 x5) ∧ w'.cell? ⟨w.heap.size, 6, none⟩ = some (.slice A n cap)) (first | (with_reducible exact ⟨u0, u1, u2, u3, u4, u5, u6⟩) | (with_reducible exact ⟨q0, q1, q2, q3, q4, q5, q6⟩) | (with_reducible exact ⟨s0, s1, s2, s3, s4, s5, s6⟩) | (with_reducible exact ⟨t0, t1, t2, t3, t4, t5, t6⟩) | go_keep) (first
    | (refine step_append_bytes (o := ⟨some 19, _, _, _, _, _⟩) rfl (.tmp 16) (.tmp 18) rfl _ _ 48 _ _ rfl HO2.out A n cap l rfl (HB.out.below (b0.out.trans (HB2.out.mono b0.out.size)) (Nat.le_refl _)) HL.out (by omega) ?_; intro A3 c3 w3 ho3 hbel3; have HO3 := Lib.hid ho3; have HB3 := Lib.hid hbel3; have R3 := Lib.hid (R2.out.below hbel3 R0.out.lt); have s0 := R3.out.cell (i := 0) rfl; have s1 := R3.out.cell (i := 1) rfl; have s2 := R3.out.cell (i := 2) rfl; have s3 := R3.out.cell (i := 3) rfl; have s4 := R3.out.cell (i := 4) rfl; have s5 := R3.out.cell (i := 5) rfl; have s6 := R3.out.cell (i := 6) rfl; clear ho3 hbel3)
    | (go_at_call 44; (with_reducible refine (HN.out _ _ (by simp)).mono ?_); rintro e w2 ⟨A2, c2, rfl, ho2, hbel2⟩; have HO2 := Lib.hid ho2; have HB2 := Lib.hid hbel2; have R2 := Lib.hid (R0.out.below hbel2 R0.out.lt); have q0 := R2.out.cell (i := 0) rfl; have q1 := R2.out.cell (i := 1) rfl; have q2 := R2.out.cell (i := 2) rfl; have q3 := R2.out.cell (i := 3) rfl; have q4 := R2.out.cell (i := 4) rfl; have q5 := R2.out.cell (i := 5) rfl; have q6 := R2.out.cell (i := 6) rfl; clear ho2 hbel2)
    | (go_at_call 54; (with_reducible refine (HP.out _ _ _ HO3.out.bytes).mono ?_); rintro e w4 ⟨A4, c4, rfl, ho4, hbel4⟩; have HO4 := Lib.hid ho4; have HB4 := Lib.hid hbel4; have R4 := Lib.hid (R3.out.below hbel4 R3.out.lt); have t0 := R4.out.cell (i := 0) rfl; have t1 := R4.out.cell (i := 1) rfl; have t2 := R4.out.cell (i := 2) rfl; have t3 := R4.out.cell (i := 3) rfl; have t4 := R4.out.cell (i := 4) rfl; have t5 := R4.out.cell (i := 5) rfl; have t6 := R4.out.cell (i := 6) rfl; clear ho4 hbel4))
  go_wp2
  go_ret
  have hb23 := (b0.out.trans (HB2.out.mono b0.out.size)).trans (HB3.out.mono b0.out.size)
  exact ⟨A4, c4, rfl, Own.base HO4.out hb23.size, hb23.trans (HB4.out.mono hb23.size)⟩
set_option maxHeartbeats 4000000 in
theorem rputField_any (x0 x1 x2 : Int) (A : Option Addr) (l : List Int) (n cap : Nat) (w : World) (hb : Bytes w A l) (hL : l.length = n) (hn : n ≤ 900000) (hv : I64 [x0, x1, x2]) :
    Calls Try.prog 73 #[fieldV x0 x1 x2 A n cap] w (Owned (objB 2 (nums [x0, x1, x2] ++ l)) (16 + (24 + n) + padN (24 + n)) w) := by
  have HN := Lib.hid fun (W : World) (g : Nat) (hg : W.heap.size = g) => rnumsd3 x0 x1 x2 W g hg hv
  have HL := Lib.hid hL
  have HB := Lib.hid hb
  have HP := Lib.hid fun (A2 : Option Addr) (c2 : Nat) (W : World) (h : Bytes W A2 (nums [x0, x1, x2] ++ l)) => rput_yes 2 A2 (nums [x0, x1, x2] ++ l) (24 + n) c2 W (by decide) h (by rw [List.length_append, nums_len, hL]; rfl) (by omega)
  unfold Owned at HP
  have b0 := Lib.hid ((Below.refl w.heap.size w).alloc (Nat.le_refl _) (.cells #[.int .u64 x0, .int .u64 x1, .int .u64 x2, .slice A n cap] 153))
  have R0 := Lib.hid (Blk.new w [.int .u64 x0, .int .u64 x1, .int .u64 x2, .slice A n cap] 153)
  have u0 := R0.out.drew.cell (i := 0) rfl; have u1 := R0.out.drew.cell (i := 1) rfl; have u2 := R0.out.drew.cell (i := 2) rfl; have u3 := R0.out.drew.cell (i := 3) rfl
  generalize nums [x0, x1, x2] = N at *
  generalize padN (24 + n) = p at *
  clear hb hL hv
  go_enter Try.func73, Try.ntmps73
  go_wp2
  go_region_held3 (fun w' => w'.cell? ⟨w.heap.size, 0, none⟩ = some (.int .u64 x0) ∧ w'.cell? ⟨w.heap.size, 1, none⟩ = some (.int .u64 x1) ∧ w'.cell? ⟨w.heap.size, 2, none⟩ = some (.int .u64 x2) ∧ w'.cell? ⟨w.heap.size, 3, none⟩ = some (.slice A n cap)) (first | (with_reducible exact ⟨u0, u1, u2, u3⟩) | (with_reducible exact ⟨q0, q1, q2, q3⟩) | (with_reducible exact ⟨s0, s1, s2, s3⟩) | (with_reducible exact ⟨t0, t1, t2, t3⟩) | go_keep) (first
    | (refine step_append_bytes (o := ⟨some 13, _, _, _, _, _⟩) rfl (.tmp 10) (.tmp 12) rfl _ _ 24 _ _ rfl HO2.out A n cap l rfl (HB.out.below (b0.out.trans (HB2.out.mono b0.out.size)) (Nat.le_refl _)) HL.out (by omega) ?_; intro A3 c3 w3 ho3 hbel3; have HO3 := Lib.hid ho3; have HB3 := Lib.hid hbel3; have R3 := Lib.hid (R2.out.below hbel3 R0.out.lt); have s0 := R3.out.cell (i := 0) rfl; have s1 := R3.out.cell (i := 1) rfl; have s2 := R3.out.cell (i := 2) rfl; have s3 := R3.out.cell (i := 3) rfl; clear ho3 hbel3)
    | (go_at_call 44; (with_reducible refine (HN.out _ _ (by simp)).mono ?_); rintro e w2 ⟨A2, c2, rfl, ho2, hbel2⟩; have HO2 := Lib.hid ho2; have HB2 := Lib.hid hbel2; have R2 := Lib.hid (R0.out.below hbel2 R0.out.lt); have q0 := R2.out.cell (i := 0) rfl; have q1 := R2.out.cell (i := 1) rfl; have q2 := R2.out.cell (i := 2) rfl; have q3 := R2.out.cell (i := 3) rfl; clear ho2 hbel2)
    | (go_at_call 54; (with_reducible refine (HP.out _ _ _ HO3.out.bytes).mono ?_); rintro e w4 ⟨A4, c4, rfl, ho4, hbel4⟩; have HO4 := Lib.hid ho4; have HB4 := Lib.hid hbel4; have R4 := Lib.hid (R3.out.below hbel4 R3.out.lt); have t0 := R4.out.cell (i := 0) rfl; have t1 := R4.out.cell (i := 1) rfl; have t2 := R4.out.cell (i := 2) rfl; have t3 := R4.out.cell (i := 3) rfl; clear ho4 hbel4))
  go_wp2
  go_ret
  have hb23 := (b0.out.trans (HB2.out.mono b0.out.size)).trans (HB3.out.mono b0.out.size)
  exact ⟨A4, c4, rfl, Own.base HO4.out hb23.size, hb23.trans (HB4.out.mono hb23.size)⟩
end Go.Proofs.Ytkdbgilnehjpmaa.Oj
/-
  What the document's 'Read' tells of a place.
-/
namespace Go.Proofs.Ytkdbgilnehjpmaa.Oh
open Go.ChangeShapes Go.WideShapes Go.ChangeAt Go.RowKit
open Bytes8 Blk8 Own8 OwnM OwnE LeA LeAl LeNum LeB LeP RefA RefB Ob Oc Od Og
set_option linter.unusedVariables false
set_option maxRecDepth 100000
set_option linter.unusedSimpArgs false
end Go.Proofs.Ytkdbgilnehjpmaa.Oh
/-
  The body of the object at a place: the document's own.
-/
namespace Go.Proofs.Ytkdbgilnehjpmaa.Oi
open Go.ChangeShapes Go.WideShapes Go.ChangeAt Go.RowKit
open Bytes8 Blk8 Own8 OwnM OwnE LeA LeAl LeNum LeB LeP RefA RefB Ob Oc Od Og Oh
set_option linter.unusedVariables false
set_option maxRecDepth 100000
set_option linter.unusedSimpArgs false
theorem body_there {l : List Int} {a n : Nat} (hL : l.length = n) (h : code l a = 0) : ∃ m : Nat, sizeL l a = ((16 + m : Nat) : Int) ∧ (bodyL l a).length = m ∧ a + 16 + m ≤ n ∧ bodyL l a = (l.drop (a + 16)).take m ∧ a % 8 = 0 := by
  have hf := code_fine h
  have hs : sizeL l a = u8 l (a + 8) := by unfold sizeL; rw [if_pos h]
  have hl := body_len h
  refine ⟨(sizeL l a).toNat - 16, by omega, by omega, by omega, rfl, hf.1⟩
end Go.Proofs.Ytkdbgilnehjpmaa.Oi
/-
  The body of the object at a place: the program's and the document's own.
-/
namespace Go.Proofs.Ytkdbgilnehjpmaa.Oi
open Go.ChangeShapes Go.WideShapes Go.ChangeAt Go.RowKit
open Bytes8 Blk8 Own8 OwnM OwnE LeA LeAl LeNum LeB LeP RefA RefB Ob Oc Od Og Oh
set_option linter.unusedVariables false
set_option maxRecDepth 100000
set_option linter.unusedSimpArgs false
end Go.Proofs.Ytkdbgilnehjpmaa.Oi
/-
  What 'PutData' and 'PutField' lay: the program's and the document's own.
-/
namespace Go.Proofs.Ytkdbgilnehjpmaa.Oj
open Go.ChangeShapes Go.WideShapes Go.ChangeAt Go.RowKit
open Bytes8 Blk8 Own8 OwnM OwnE LeA LeAl LeNum LeB LeP RefA RefB Ob Oc Od Oe Oi
set_option linter.unusedVariables false
set_option maxRecDepth 100000
set_option linter.unusedSimpArgs false
end Go.Proofs.Ytkdbgilnehjpmaa.Oj
/-
  A journal's head in memory: its cells, its bytes.
-/
namespace Go.Proofs.Ytkdbgilnehjpmaa.Ga
open Go.ChangeShapes Go.WideShapes Go.ChangeAt Go.RowKit
open Bytes8 Blk8 Own8 OwnM LeNum Ob Oc Od
set_option linter.unusedVariables false
set_option linter.unusedSimpArgs false
set_option maxRecDepth 100000
/-- What a head has: its flags, its state, its IDs' bytes, its numbers, what stands behind them. -/
structure HD where
  cp : Int
  ic : Int
  st : Int
  I : Nat → Int
  N : Nat → Int
  ta : Int
  ti : Int
  te : Int
/-- The value at a place of a head of m numbers. -/
def HD.at_ (h : HD) (m i : Nat) : Value :=
  if i < 3 then (if i = 0 then .int .u32 h.cp else if i = 1 then .int .u32 h.ic else .int .i64 h.st)
  else if i < 67 then .int .u8 (h.I (i - 3))
  else if i < 67 + m then .int .u64 (h.N (i - 67))
  else if i = 67 + m then .int .u32 h.ta
  else if i = 68 + m then .int .u32 h.ti
  else .int .u64 h.te
def HD.cells (h : HD) (m : Nat) : List Value := (List.range (70 + m)).map (h.at_ m)
theorem HD.len (h : HD) (m : Nat) : (h.cells m).length = 70 + m := by simp [HD.cells]
theorem HD.get (h : HD) (m i : Nat) (hi : i < 70 + m) : (h.cells m)[i]? = some (h.at_ m i) := by simp [HD.cells, hi]
theorem HD.get_I (h : HD) (m i : Nat) (hi : i < 64) : (h.cells m)[3 + i]? = some (.int .u8 (h.I i)) := by
  rw [h.get m _ (by omega)]
  unfold HD.at_
  rw [if_neg (by omega), if_pos (by omega), show 3 + i - 3 = i by omega]
theorem HD.get_N (h : HD) (m i : Nat) (hi : i < m) : (h.cells m)[67 + i]? = some (.int .u64 (h.N i)) := by
  rw [h.get m _ (by omega)]
  unfold HD.at_
  rw [if_neg (by omega), if_neg (by omega), if_pos (by omega), show 67 + i - 67 = i by omega]
theorem HD.get_ta (h : HD) (m : Nat) : (h.cells m)[67 + m]? = some (.int .u32 h.ta) := by
  rw [h.get m _ (by omega)]
  unfold HD.at_
  rw [if_neg (by omega), if_neg (by omega), if_neg (by omega), if_pos rfl]
theorem HD.get_ti (h : HD) (m : Nat) : (h.cells m)[68 + m]? = some (.int .u32 h.ti) := by
  rw [h.get m _ (by omega)]
  unfold HD.at_
  rw [if_neg (by omega), if_neg (by omega), if_neg (by omega), if_neg (by omega), if_pos rfl]
theorem HD.get_te (h : HD) (m : Nat) : (h.cells m)[69 + m]? = some (.int .u64 h.te) := by
  rw [h.get m _ (by omega)]
  unfold HD.at_
  rw [if_neg (by omega), if_neg (by omega), if_neg (by omega), if_neg (by omega), if_neg (by omega)]
theorem HD.one (h : HD) (m : Nat) : (h.cells m).toArray.all (·.oneCell') = true := by
  rw [Array.all_eq_true_iff_forall_mem]
  intro x hx
  simp only [HD.cells, List.mem_toArray, List.mem_map, List.mem_range] at hx
  obtain ⟨i, _, rfl⟩ := hx
  unfold HD.at_
  repeat' split
  all_goals rfl
/-- All numbers fit. -/
structure HD.Ok (h : HD) (m : Nat) : Prop where
  cp : 0 ≤ h.cp ∧ h.cp ≤ 4294967295
  ic : 0 ≤ h.ic ∧ h.ic ≤ 4294967295
  st : -9223372036854775808 ≤ h.st ∧ h.st ≤ 9223372036854775807
  I : ∀ i, 0 ≤ h.I i ∧ h.I i < 256
  N : ∀ i, 0 ≤ h.N i ∧ h.N i ≤ 18446744073709551615
  ta : 0 ≤ h.ta ∧ h.ta ≤ 4294967295
  ti : 0 ≤ h.ti ∧ h.ti ≤ 4294967295
  te : 0 ≤ h.te ∧ h.te ≤ 18446744073709551615
/-- Sixteen of the IDs' bytes. -/
def HD.id (h : HD) (k : Nat) : List Int := (List.range 16).map fun i => h.I (16 * k + i)
def HD.ids (h : HD) (k : Nat) : List Int := (List.range (16 * k)).map h.I
def HD.nums (h : HD) (k : Nat) : List Int := (List.range k).map h.N
theorem HD.ids_succ (h : HD) (k : Nat) : h.ids (k + 1) = h.ids k ++ h.id k := by
  unfold HD.ids HD.id
  rw [show 16 * (k + 1) = 16 * k + 16 by omega, List.range_add, List.map_append, List.map_map]
  rfl
theorem HD.ids_len (h : HD) (k : Nat) : (h.ids k).length = 16 * k := by simp [HD.ids]
theorem HD.id_len (h : HD) (k : Nat) : (h.id k).length = 16 := by simp [HD.id]
theorem HD.nums_succ (h : HD) (k : Nat) : h.nums (k + 1) = h.nums k ++ [h.N k] := by
  unfold HD.nums
  rw [List.range_succ, List.map_append]
  rfl
theorem HD.nums_len (h : HD) (k : Nat) : (h.nums k).length = k := by simp [HD.nums]
theorem HD.id_all {h : HD} {m : Nat} (ok : h.Ok m) (k : Nat) : AllB (h.id k) := fun n hn => by
  simp only [HD.id, List.mem_map, List.mem_range] at hn
  obtain ⟨i, _, rfl⟩ := hn
  exact ok.I _
theorem HD.id_at {w : World} {g : Nat} {T : TypeId} {h : HD} {m : Nat} (hb : Blk w g (h.cells m) T) (ok : h.Ok m) (k : Nat) (hk : k < 4) : Bytes w (some ⟨g, 3 + 16 * k, none⟩) (h.id k) := by
  refine ⟨HD.id_all ok k, fun i hi => ⟨g, 3 + 16 * k, rfl, hb.lt, ?_⟩⟩
  rw [HD.id_len] at hi
  rw [Nat.add_assoc]
  rw [hb.cell (h.get_I m (16 * k + i) (by omega))]
  unfold HD.id
  simp [hi]
theorem HD.nums_at {w : World} {g : Nat} {T : TypeId} {h : HD} {m : Nat} (hb : Blk w g (h.cells m) T) (i : Nat) (hi : i < m) : w.cell? ⟨g, 67 + i, none⟩ = some (.int .u64 (h.N i)) := hb.cell (h.get_N m i hi)
/-- The bytes of a head of m numbers. -/
def magicL : List Int := [76, 80, 75, 83, 72, 72, 82, 72]
def HD.front (h : HD) : List Int := magicL ++ lowB h.cp 4 ++ lowB h.ic 4 ++ lowB (h.st % 256) 8
def HD.bytes (h : HD) (m : Nat) : List Int := h.front ++ h.ids 4 ++ Ob.nums (h.nums m) ++ lowB h.ta 4 ++ lowB h.ti 4 ++ lowB h.te 8
theorem HD.front_len (h : HD) : h.front.length = 24 := by unfold HD.front; simp [lowB_len, magicL]
theorem HD.bytes_len (h : HD) (m : Nat) : (h.bytes m).length = 104 + 8 * m := by
  unfold HD.bytes
  simp only [List.length_append, HD.front_len, HD.ids_len, Ob.nums_len, HD.nums_len, lowB_len]
  omega
theorem magic_all : AllB magicL := fun x hx => by simp [magicL] at hx; omega
theorem HD.front_all (h : HD) : AllB h.front := ((magic_all.app (lowB_all _ _)).app (lowB_all _ _)).app (lowB_all _ _)
end Go.Proofs.Ytkdbgilnehjpmaa.Ga
/-
  A head handed on as the package's.
-/
namespace Go.Proofs.Ytkdbgilnehjpmaa.Gb
open Go.ChangeShapes Go.WideShapes Go.ChangeAt Go.RowKit
open Bytes8 Blk8 Own8 OwnM LeNum Ob Oc Od Ga
set_option linter.unusedVariables false
set_option linter.unusedSimpArgs false
set_option maxRecDepth 100000
theorem wpList_build_as {P : Program} {ops : Array Oper} {rest : List Oper} {o : Oper} {a : Act} {w : World} {Q : Exit → Act → World → Prop} (hg : o.guard = none) (t : TypeId) (parts : Array (Nat × Operand)) (ho : o.op = .build t parts) (cells : Array Value)
    (hb : P.built t (parts.map fun (i, x) => (i, a.eval x)).toList = some cells) (h : wpList P ops Q rest (a.put o.dst (.agg cells)) w) : wpList P ops Q (o :: rest) a w :=
  wpList_build hg t parts ho (by rw [hb]; rfl) (by rw [hb]; exact h)
/-- The operation that writes this slot; the one that stores. -/
theorem at_slot (n : Nat) {P : Program} {ops : Array Oper} {Q : Exit → Act → World → Prop} {rest : List Oper} {a : Act} {w : World} {op : Op} {ty : TypeId} {pos : String} {af : Array Edge} {gd : Option (Nat × Bool)}
    (h : wpList P ops Q (⟨some n, op, ty, pos, af, gd⟩ :: rest) a w) : wpList P ops Q (⟨some n, op, ty, pos, af, gd⟩ :: rest) a w := h
theorem at_store (x y : Operand) {P : Program} {ops : Array Oper} {Q : Exit → Act → World → Prop} {rest : List Oper} {a : Act} {w : World} {t ty : TypeId} {pos : String} {af : Array Edge} {gd : Option (Nat × Bool)}
    (h : wpList P ops Q (⟨none, .store t x y, ty, pos, af, gd⟩ :: rest) a w) : wpList P ops Q (⟨none, .store t x y, ty, pos, af, gd⟩ :: rest) a w := h
theorem headInfo : (Try.prog.info? 38).map (·.size) = some 91 := by kernel_rfl
theorem rheadInfo : (Try.prog.info? 65).map (·.size) = some 90 := by kernel_rfl
theorem idInfo : (Try.prog.info? 35).map (·.size) = some 16 := by kernel_rfl
/-- With one number more. -/
def HD.plus (h : HD) (d : Int) : HD := { h with N := fun i => if i < 20 then h.N i else d }
theorem cells_info (h : HD) : (Try.prog.info? 38).map (·.size) = some (h.cells 21).toArray.size := by rw [headInfo]; simp [HD.len]
theorem zeros_size {h : HD} : Try.zeroCells38.size = (h.cells 21).toArray.size := by rw [show Try.zeroCells38.size = 91 by kernel_rfl]; simp [HD.len]
attribute [local irreducible] HD.cells wpList Code.wp
end Go.Proofs.Ytkdbgilnehjpmaa.Gb
/-
  A journal that grows, as plain data: what the document's writer makes. No Go in sight.
-/
namespace Go.Proofs.Ytkdbgilnehjpmaa.Ma
open Bytes8 LeNum Ob Ga
set_option linter.unusedVariables false
set_option linter.unusedSimpArgs false
/-- Eight bytes put at a place. -/
def put8 (b : List Int) (a : Nat) (v : Int) : List Int := over b a (lowB v 8)
theorem put8_len (b : List Int) (a : Nat) (v : Int) (h : a + 8 ≤ b.length) : (put8 b a v).length = b.length := over_len _ _ _ (by rw [lowB_len]; exact h)
/-- A payload, or a name, that has an object. -/
structure Kn where
  text : List Int
  at_ : Nat
  slot : Nat
  count : Nat
  arrays : List Nat
/-- A writer's configuration. -/
structure Cf where
  F : Nat → Int
  M : Nat → Int
  S : Nat → Int
  ds : Nat
  fs : Nat
  most : Nat
  keyed : Bool
structure Mk where
  C : Cf
  h : HD
  depth : Nat
  b : List Int
  datas : List Kn
  fields : List Kn
  main : List Nat
def setN (h : HD) (i : Nat) (v : Int) : HD := { h with N := fun j => if j = i then v else h.N j }
/-- An object at the end; it lies at the old end. -/
def Mk.object (m : Mk) (l : List Int) : Mk := { m with b := m.b ++ l, h := setN (setN m.h 6 m.b.length) 7 (m.h.N 7 + 1) }
/-- Of a row those of a slot: how many, the last one's place. -/
def inSlot (l : List Kn) (slot : Nat) : Nat := (l.filter fun k => k.slot == slot).length
def lastIn (l : List Kn) (slot : Nat) : Nat := ((l.filter fun k => k.slot == slot).getLast?.map Kn.at_).getD 0
/-- Into the chain of its slot. -/
def hung (b : List Int) (l : List Kn) (table a slot : Nat) : List Int :=
  put8 (if inSlot l slot = 0 then put8 b (table + 16 * slot) a else put8 b (lastIn l slot + 24) a) (table + 16 * slot + 8) a
/-- The room of the k-th array of a chain. -/
def roomN (k : Nat) : Nat := if k > 6 then 256 else min (4 * 2 ^ k) 256
def rooms (k : Nat) : Nat := ((List.range k).map roomN).foldl (· + ·) 0
theorem rooms_succ (k : Nat) : rooms (k + 1) = rooms k + roomN k := by simp [rooms, List.range_succ]
theorem inSlot_snoc (l : List Kn) (k : Kn) (slot : Nat) : inSlot (l ++ [k]) slot = inSlot l slot + if k.slot = slot then 1 else 0 := by
  unfold inSlot
  rw [List.filter_append, List.length_append]
  by_cases h : k.slot = slot
  · simp [h]
  · simp [h]
theorem lastIn_snoc (l : List Kn) (k : Kn) (slot : Nat) : lastIn (l ++ [k]) slot = if k.slot = slot then k.at_ else lastIn l slot := by
  unfold lastIn
  rw [List.filter_append]
  by_cases h : k.slot = slot
  · simp [h]
  · simp [h]
theorem take_snoc_kn (l : List Kn) (i : Nat) (h : i < l.length) : l.take (i + 1) = l.take i ++ [l[i]] := by rw [List.take_succ_eq_append_getElem h]
end Go.Proofs.Ytkdbgilnehjpmaa.Ma
