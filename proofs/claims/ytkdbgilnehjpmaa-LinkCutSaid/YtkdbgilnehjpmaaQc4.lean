/-
  Texts beneath the proof, one behind the other.
-/
import Derived.Lib.SliceRun
import Derived.Maps.AppendAt
import Derived.Deep.DeepMust
import Derived.Deep.RegionLaw
import Derived.Deep.RegionWith
import Derived.Deep.Cut
import Derived.BigRegion
import Derived.Lib.SlBytesConst
import Derived.Test.YtkdbgilnehjpmaaQc3
import Derived.Test.YtkdbgilnehjpmaaQc1
import Derived.Test.YtkdbgilnehjpmaaQc2
/-
  The document's Nums of numbers that can be read.
-/
namespace Go.Proofs.Ytkdbgilnehjpmaa.Gn
open Go.ChangeShapes Go.WideShapes Go.ChangeAt Go.RowKit
open Bytes8 Blk8 Own8 OwnM LeA LeAl LeNum LeB LeP RefA RefB Ob Oc Od Oe Rows2
set_option linter.unusedVariables false
set_option linter.unusedSimpArgs false
set_option maxRecDepth 100000
/-- The numbers up to the k-th. -/
def ints (f : Nat → Int) (k : Nat) : List Int := (List.range k).map f
theorem ints_succ (f : Nat → Int) (k : Nat) : ints f (k + 1) = ints f k ++ [f k] := by simp [ints, List.range_succ]
theorem ints_len (f : Nat → Int) (k : Nat) : (ints f k).length = k := by simp [ints]
theorem ints_nums (f : Nat → Int) (k : Nat) : nums (ints f (k + 1)) = nums (ints f k) ++ lowB (f k) 8 := by rw [ints_succ, nums_snoc]
set_option maxHeartbeats 1000000 in
theorem rnums_in (Ai : Option Addr) (n cap : Nat) (f : Nat → Int) (w : World) (hi : InInts .u64 w Ai n f) (hmax : n ≤ 100000) :
    Calls Try.prog 44 #[.slice Ai n cap] w fun e w' => ∃ A c, e = .returned (.slice A (8 * n) c) ∧ Own w' w.heap.size A (8 * n) c (nums (ints f n)) ∧ Below w.heap.size w w' := by
  have HI := Lib.hid hi
  clear hi
  go_enter Try.func44, Try.ntmps44
  go_wp2
  go_loopw [3, 4] (fun s i wr => ∃ (k : Nat) (A : Option Addr) (c : Nat), k ≤ n ∧ i = .int .i64 (k : Int) ∧ s = .slice A (8 * k) c ∧ Hid (Own wr w.heap.size A (8 * k) c (nums (ints f k))) ∧ Hid (Below w.heap.size w wr)) (fun _ i _ => n - (intOf i).toNat)
  case atStart => exact ⟨0, none, 0, Nat.zero_le _, rfl, rfl, Own.nil w _ (Nat.le_refl _), Below.refl _ _⟩
  case round =>
    obtain ⟨k, A, c, hk, rfl, rfl, ho, hbel⟩ := hrel
    by_cases hlt2 : k < n
    · obtain ⟨b, off, rfl, hb, hc, hw⟩ := (HI.out.below hbel.out) k hlt2
      obtain ⟨x0, x1⟩ := bounds_u64 hw
      have HN := Lib.hid (ints_nums f k)
      have hsz := hbel.out.size
      generalize f k = x at *
      have HLo := Lib.hid fun (W : World) => rlow_at x 8 8 W x0 x1 (by decide) rfl
      go_wp2_with (first | (go_at_call 43; (with_reducible refine (HLo.out _).mono ?_); rintro e w2 ⟨A2, c2, rfl, ho2, hbel2⟩; have HO2 := Lib.hid ho2; have HB2 := Lib.hid hbel2; clear ho2 hbel2) | (at_builtin; refine wpList_append_bytes rfl (.tmp 11) (.tmp 16) rfl w.heap.size A (8 * k) c (nums (ints f k)) rfl (ho.out.kept HB2.out (Nat.le_refl _)) A2 8 c2 _ rfl HO2.out.bytes (lowB_len _ _) (by omega) ?_; intro A3 c3 w3 ho3 hbel3; have HO3 := Lib.hid ho3; have HB3 := Lib.hid hbel3; clear ho3 hbel3))
      go_roundw
      case rel =>
        refine ⟨k + 1, A3, c3, by omega, by go_num, rfl, ?_, Lib.hid ((hbel.out.trans (HB2.out.mono hsz)).trans HB3.out)⟩
        rw [HN.out]
        exact HO3
      case measure => simp [intOf]; omega
    · obtain rfl : k = n := by omega
      go_wp2
      go_ret
      exact ⟨A, c, rfl, ho.out, hbel.out⟩
end Go.Proofs.Ytkdbgilnehjpmaa.Gn
/-
  A copy of bytes: the library's, and the statements' own.
-/
namespace Go.Proofs.Ytkdbgilnehjpmaa.Cl8
open Go.ChangeShapes Go.WideShapes Go.ChangeAt Go.RowKit
open Bytes8 Blk8 Own8 OwnE
set_option linter.unusedVariables false
set_option maxRecDepth 100000
set_option linter.unusedSimpArgs false
/-- Bytes of the call's own. -/
def Made (m : List Int) (n : Nat) (w : World) (e : Ending) (w' : World) : Prop := ∃ A c, e = .returned (.slice A n c) ∧ Bytes w' A m ∧ Below w.heap.size w w'
theorem clone_any (A : Option Addr) (l : List Int) (len cap : Nat) (w : World) (hb : Bytes w A l) (hL : l.length = len) (hmax : len ≤ 1000000) :
    Calls Try.prog 25 #[.slice A len cap] w (Made l len w) := by
  have q22 : ∀ (w : World) (a : Option Addr) (n c n' c' : Nat), (binOp .eql 31 (.slice a n c) (.slice none n' c')).run Try.prog w = .ok (.bool a.isNone) w := fun w a n c n' c' => Lib.run_eql_slice_nil w _ _ a n c n' c' Try.underlying31
  cases A with
  | none =>
    have h0 : l = [] := by
      rcases l with _ | ⟨x, r⟩
      · rfl
      · obtain ⟨b, off, e, _⟩ := hb.2 0 (by simp)
        cases e
    subst h0
    obtain rfl : len = 0 := by simpa using hL.symm
    clear hb hL
    go_enter Try.func25, Try.ntmps25
    go_wp2
    go_ret
    exact ⟨none, 0, rfl, Bytes.nil _ _, Below.refl _ _⟩
  | some a =>
    have HB := Lib.hid (hb.below ((Below.refl w.heap.size w).alloc (Nat.le_refl _) (.cells #[] 5)) (Nat.le_refl _))
    have HL := Lib.hid hL
    clear hb hL
    go_enter Try.func25, Try.ntmps25
    go_wp2_with (at_builtin; refine wpList_append_bytes rfl (.tmp 5) (.tmp 6) rfl w.heap.size _ 0 0 [] rfl (Own.made w _ (Nat.le_refl _)) (some a) len cap l rfl HB.out HL.out (by omega) ?_; intro A2 c2 w2 ho2 hbel2; rw [Nat.zero_add, List.nil_append] at ho2; rw [Nat.zero_add]; have HO2 := Lib.hid ho2; clear ho2)
    go_ret
    exact ⟨A2, c2, rfl, HO2.out.bytes, ((Below.refl _ _).alloc (Nat.le_refl _) _).trans hbel2⟩
end Go.Proofs.Ytkdbgilnehjpmaa.Cl8
/-
  'append' of bytes onto one of several rows of the call's own: where the new slice lies, and that the other rows stay.
-/
namespace Go.Proofs.Ytkdbgilnehjpmaa.OwnA
open Go.ChangeShapes Go.WideShapes Go.ChangeAt Go.RowKit
open Bytes8 Blk8 Own8 OwnM
set_option linter.unusedVariables false
set_option maxRecDepth 100000
def ownB (A : Option Addr) : Option Nat := A.map (·.block)
theorem ownB_eq (A : Option Addr) (n c : Nat) : (Value.slice A n c).ownBlock = ownB A := by cases A <;> rfl
theorem own_kept {w w' : World} {base n c : Nat} {row : Option Nat} {A : Option Addr} {l : List Int} (h : Own w base A n c l) (hg : w.grownBy w' row) (hne : ∀ g, ownB A = some g → row ≠ some g) : Own w' base A n c l := by
  refine ⟨h.1, h.2.1, Nat.le_trans h.2.2.1 hg.size, h.2.2.2.1, ?_⟩
  rcases h.2.2.2.2 with h1 | ⟨k, cap, cur, h1, h2, h3, h4⟩
  · exact .inl h1
  · refine .inr ⟨k, cap, cur, h1, h2, ?_, h4⟩
    have hk : k < w.heap.size := by
      rcases Nat.lt_or_ge k w.heap.size with h | h
      · exact h
      · rw [Array.getElem?_eq_none h] at h3; cases h3
    injection h1 with e1 e2 e3
    subst e1
    rw [hg.block k hk (fun e => hne k rfl e.symm)]; exact h3
theorem run_append_at (w : World) (ty : TypeId) (base : Nat) (A : Option Addr) (n c : Nat) (l : List Int) (ho : Own w base A n c l) (A2 : Option Addr) (m c2 : Nat) (ys : List Int) (hb : Bytes w A2 ys) (hm : ys.length = m) (hsz : n + m ≤ 70368744177664) :
    ∃ A' c' w', (Builtin.append_ #[31, 31] ty #[.slice A n c, .slice A2 m c2]).run Try.prog w = .ok (.slice A' (n + m) c') w' ∧ Own w' base A' (n + m) c' (l ++ ys) ∧ w.grownBy w' (ownB A) ∧ (ownB A' = ownB A ∨ ownB A' = some w.heap.size) := by
  obtain ⟨i, hi, hzz⟩ := Option.map_eq_some_iff.1 info8
  simp only [Prod.mk.injEq] at hzz
  obtain ⟨hz, hs, hby⟩ := hzz
  have hown := ho.2.2.2
  have done : ∀ (v' : Value) (w' : World), w'.ownsRow base 5 1 v' (n + m) (l.map (Value.int .u8) ++ ys.map (Value.int .u8)) → w.grownBy w' (Value.slice A n c).ownBlock → (v'.ownBlock = (Value.slice A n c).ownBlock ∨ v'.ownBlock = some w.heap.size) →
      ∃ A' c', v' = .slice A' (n + m) c' ∧ Own w' base A' (n + m) c' (l ++ ys) ∧ w.grownBy w' (ownB A) ∧ (ownB A' = ownB A ∨ ownB A' = some w.heap.size) := by
    intro v' w' h2 h3 h4
    have hsize := h3.size
    rw [ownB_eq] at h3 h4
    have hL : (l ++ ys).length = n + m := by rw [List.length_append, ho.2.1, hm]
    rw [← List.map_append] at h2
    rcases h2.2 with ⟨rfl, h0⟩ | ⟨g, cap, cur, rfl, _⟩
    · rw [h0] at h2 hL ⊢
      rw [ownB_eq] at h4
      exact ⟨none, 0, rfl, ⟨ho.1.app hb.1, hL, Nat.le_trans ho.2.2.1 hsize, h2⟩, h3, h4⟩
    · rw [ownB_eq] at h4
      exact ⟨_, _, rfl, ⟨ho.1.app hb.1, hL, Nat.le_trans ho.2.2.1 hsize, h2⟩, h3, h4⟩
  have hlen : (ys.map (Value.int .u8)).length = m * 1 := by simp [hm]
  by_cases h0 : 0 < ys.length
  · obtain ⟨ad, rfl, hsrc⟩ := hb.source w (Below.refl _ _) h0
    obtain ⟨v', w', hr, h2, h3, _, h4⟩ := run_append_own_at (P := Try.prog) w base 31 ty 5 i (.int .u8 0) 1 1 Try.underlying31 hi hz hs hby rfl (by decide) _ n _ hown ad m c2 (ys.map (Value.int .u8)) hlen
      (fun j u hu => by
        rw [List.getElem?_map] at hu
        obtain ⟨x, hx, rfl⟩ := Option.map_eq_some_iff.1 hu
        exact hsrc j x hx) (ones ys) (by unfold maxLen; omega) (by omega) ho.2.2.1
    obtain ⟨A', c', rfl, h5⟩ := done v' w' h2 h3 h4
    exact ⟨A', c', w', hr, h5⟩
  · obtain rfl : ys = [] := List.eq_nil_of_length_eq_zero (by omega)
    obtain rfl : m = 0 := by simpa using hm.symm
    cases A2 with
    | some ad =>
      obtain ⟨v', w', hr, h2, h3, _, h4⟩ := run_append_own_at (P := Try.prog) w base 31 ty 5 i (.int .u8 0) 1 1 Try.underlying31 hi hz hs hby rfl (by decide) _ n _ hown ad 0 c2 [] rfl
        (fun j u hu => by simp at hu) (fun u hu => by cases hu) (by unfold maxLen; omega) (by omega) ho.2.2.1
      obtain ⟨A', c', rfl, h5⟩ := done v' w' h2 h3 h4
      exact ⟨A', c', w', hr, h5⟩
    | none =>
      refine ⟨A, c, w, ?_, ?_, World.grownBy.refl _ _, .inl rfl⟩
      · rcases hown.2 with ⟨he, h0'⟩ | ⟨g, cap, cur, he, _, _, hnc, _⟩
        · injection he with e1 e2 e3
          subst e1; subst e2; subst e3
          simp [Builtin.append_, run_underlying Try.underlying31, sizeOf, typeInfo, hi, Builtin.lenOf, Builtin.firstCells]
        · injection he with e1 e2 e3
          subst e1; subst e3
          simp [Builtin.append_, run_underlying Try.underlying31, sizeOf, typeInfo, hi, Builtin.lenOf, Builtin.firstCells, hnc, storeCells]
      · rw [Nat.add_zero, List.append_nil]; exact ho
end Go.Proofs.Ytkdbgilnehjpmaa.OwnA
/-
  'append' onto a slice of whatever elements: where the new one lies.
-/
namespace Go.Proofs.Ytkdbgilnehjpmaa.Dc
open Go.ChangeShapes Go.WideShapes Go.ChangeAt Go.RowKit
open Bytes8 Blk8 Own8 OwnA OwnM OwnE
set_option linter.unusedVariables false
set_option linter.unusedSimpArgs false
set_option maxRecDepth 100000
/-! ## 'append' onto a slice of whatever elements: where the new one lies -/
theorem run_append_elt_at {E S : TypeId} {size bytes : Nat} {z : Value} (he : Elt E S size bytes z) (w : World) (ty : TypeId) (base : Nat) (A : Option Addr) (n c : Nat) (xs : List Value) (ho : OwnE E size w base A n c xs) (ad : Addr) (m c2 : Nat) (news : List Value) (hl : news.length = m * size)
    (hnews : ∀ j u, news[j]? = some u → w.cell? (ad.add j) = some u) (h1 : ∀ u ∈ news, u.oneCell' = true) (h63 : n + m ≤ 4611686018427387904) (hbytes : (n + m) * bytes ≤ 140737488355328) (hml : n + m ≤ maxLen) :
    ∃ A' c' w', (Builtin.append_ #[S, S] ty #[.slice A n c, .slice (some ad) m c2]).run Try.prog w = .ok (.slice A' (n + m) c') w' ∧ OwnE E size w' base A' (n + m) c' (xs ++ news) ∧ w.grownBy w' (ownB A) ∧ (ownB A' = ownB A ∨ ownB A' = some w.heap.size) := by
  obtain ⟨i, hi, hzz⟩ := Option.map_eq_some_iff.1 he.info
  simp only [Prod.mk.injEq] at hzz
  obtain ⟨hz, hs, hby⟩ := hzz
  obtain ⟨v', w', hr, h2, h3, h4, h5⟩ := run_append_own_at (P := Try.prog) w base S ty E i z size bytes he.under hi hz hs hby he.zero he.pos _ n xs ho.2 ad m c2 news hl hnews h1 hml hbytes ho.1
  rw [ownB_eq] at h3 h5
  rcases h2.2 with ⟨rfl, h0⟩ | ⟨g, cap, cur, rfl, _⟩
  · rw [h0] at h2 ⊢
    rw [ownB_eq] at h5
    exact ⟨none, 0, w', hr, ⟨Nat.le_trans ho.1 h3.size, h2⟩, h3, h5⟩
  · rw [ownB_eq] at h5
    exact ⟨_, _, w', hr, ⟨Nat.le_trans ho.1 h3.size, h2⟩, h3, h5⟩
theorem wpList_append_elt_at {E S : TypeId} {size bytes : Nat} {z : Value} (he : Elt E S size bytes z) {w : World} {ops : Array Oper} {rest : List Oper} {o : Oper} {a : Act} {Q : Exit → Act → World → Prop} (hgd : o.guard = none) (s x : Operand)
    (hop : o.op = .call { callee := .builtin .append, args := #[s, x], argTypes := #[S, S] })
    (base : Nat) (A : Option Addr) (n c : Nat) (xs : List Value) (hs : a.eval s = .slice A n c) (ho : OwnE E size w base A n c xs) (ad : Addr) (m c2 : Nat) (news : List Value) (hx : a.eval x = .slice (some ad) m c2) (hl : news.length = m * size)
    (hnews : ∀ j u, news[j]? = some u → w.cell? (ad.add j) = some u) (h1 : ∀ u ∈ news, u.oneCell' = true) (h63 : n + m ≤ 4611686018427387904) (hbytes : (n + m) * bytes ≤ 140737488355328) (hml : n + m ≤ maxLen)
    (h : ∀ A' c' w', OwnE E size w' base A' (n + m) c' (xs ++ news) → w.grownBy w' (ownB A) → (ownB A' = ownB A ∨ ownB A' = some w.heap.size) → wpList Try.prog ops Q rest (a.put o.dst (.slice A' (n + m) c')) w') : wpList Try.prog ops Q (o :: rest) a w :=
  wpList_plain hgd fun _ hK => by
    obtain ⟨A', c', w', hr, h2, h3, h4⟩ := run_append_elt_at he w o.type base A n c xs ho ad m c2 news hl hnews h1 h63 hbytes hml
    unfold Oper.wp execOp
    simp only [hop, resolve, invoke, builtin, Sem.run_bind, Sem.run_pure, Result.andThen_ok, List.map_toArray, List.map_cons, List.map_nil, hs, hx, hr]
    exact hK _ _ (h A' c' w' h2 h3 h4)
/-- A row of the call's own stays, where another one grew. -/
theorem OwnE.keptG {E : TypeId} {size : Nat} {w w' : World} {base n c : Nat} {row : Option Nat} {A : Option Addr} {xs : List Value} (h : OwnE E size w base A n c xs) (hg : w.grownBy w' row) (hne : ∀ g, ownB A = some g → row ≠ some g) : OwnE E size w' base A n c xs := by
  refine ⟨Nat.le_trans h.1 hg.size, h.2.1, ?_⟩
  rcases h.2.2 with h1 | ⟨k, cap, cur, h1, h2, h3, h4⟩
  · exact .inl h1
  · refine .inr ⟨k, cap, cur, h1, h2, ?_, h4⟩
    have hk : k < w.heap.size := by
      rcases Nat.lt_or_ge k w.heap.size with h | h
      · exact h
      · rw [Array.getElem?_eq_none h] at h3; cases h3
    injection h1 with e1 e2 e3
    subst e1
    rw [hg.block k hk (fun e => hne k rfl e.symm)]; exact h3
theorem OwnE.ltB {E : TypeId} {size : Nat} {w : World} {base n c : Nat} {A : Option Addr} {xs : List Value} (h : OwnE E size w base A n c xs) : ∀ g, ownB A = some g → base ≤ g ∧ g < w.heap.size := fun g hg => h.lt g (by rw [ownB_eq]; exact hg)
end Go.Proofs.Ytkdbgilnehjpmaa.Dc
/-
  What a round of Sip, and taking eight bytes in, answer; and the document's own rounds.
-/
namespace Go.Proofs.Ytkdbgilnehjpmaa.Sa
open Go.ChangeShapes Go.WideShapes Go.ChangeAt Go.RowKit
open Bytes8 Blk8 LeNum Hm Ha Hb
set_option linter.unusedVariables false
set_option maxRecDepth 100000
end Go.Proofs.Ytkdbgilnehjpmaa.Sa
/-
  What Lookup answers: the hash of the bytes that the slice has.
-/
namespace Go.Proofs.Ytkdbgilnehjpmaa.Hd
open Go.ChangeShapes Go.WideShapes Go.ChangeAt Go.RowKit
open Bytes8 Blk8 LeNum LeA LeB Hm Ha Hb Hc
set_option linter.unusedVariables false
set_option maxRecDepth 100000
end Go.Proofs.Ytkdbgilnehjpmaa.Hd
/-
  What both Lookups answer, of nothing too.
-/
namespace Go.Proofs.Ytkdbgilnehjpmaa.Se
open Go.ChangeShapes Go.WideShapes Go.ChangeAt Go.RowKit
open Bytes8 Blk8 LeNum Hm Ha Hb Hc Hd He Hf
set_option linter.unusedVariables false
set_option maxRecDepth 100000
theorem rlook_all (A : Option Addr) (l : List Int) (len cap : Nat) (w : World) (hb : Bytes w A l) (hL : l.length = len) (hmax : len ≤ 800000) :
    Calls Try.prog 63 #[.slice A len cap] w fun e w' => e = .returned (.int .u64 (lookS l)) ∧ w = w' := by
  by_cases h0 : 0 < len
  · exact rlook_any A l len cap w hb hL h0 (by omega)
  · obtain rfl : len = 0 := by omega
    obtain rfl : l = [] := List.eq_nil_of_length_eq_zero hL
    exact rlook_nil A cap w
end Go.Proofs.Ytkdbgilnehjpmaa.Se
/-
  What the document's own rounds, and its Sip, answer.
-/
namespace Go.Proofs.Ytkdbgilnehjpmaa.Sb
open Go.ChangeShapes Go.WideShapes Go.ChangeAt Go.RowKit
open Bytes8 Blk8 LeNum Hm Ha Hb He
set_option linter.unusedVariables false
set_option maxRecDepth 100000
set_option maxHeartbeats 1000000 in
theorem rrounds_any (p q r s : Int) (n : Nat) (w : World) (h : (⟨p, q, r, s⟩ : Quad).ok) (hn : n ≤ 1000) :
    Calls Try.prog 75 #[.agg #[.int .u64 p, .int .u64 q, .int .u64 r, .int .u64 s], .int .i64 n] w fun e w' => e = .returned (.agg #[.int .u64 (rounds ⟨p, q, r, s⟩ n).p, .int .u64 (rounds ⟨p, q, r, s⟩ n).q, .int .u64 (rounds ⟨p, q, r, s⟩ n).r, .int .u64 (rounds ⟨p, q, r, s⟩ n).s]) ∧ Below w.heap.size w w' := by
  have HF := Lib.hid h
  go_enter Try.func75, Try.ntmps75
  go_wp2
  go_quiet (fail)
  go_wp2
  go_loop [5, 6, 7, 8, 9] (fun a b c d i => ∃ k : Nat, k ≤ n ∧ i = .int .i64 k ∧ a = .int .u64 (rounds ⟨p, q, r, s⟩ k).p ∧ b = .int .u64 (rounds ⟨p, q, r, s⟩ k).q ∧ c = .int .u64 (rounds ⟨p, q, r, s⟩ k).r ∧ d = .int .u64 (rounds ⟨p, q, r, s⟩ k).s) (fun _ _ _ _ i => n - (intOf i).toNat)
  case atStart => exact ⟨0, Nat.zero_le _, rfl, rfl, rfl, rfl, rfl⟩
  case round =>
    obtain ⟨k, hk, rfl, rfl, rfl, rfl, rfl⟩ := hrel
    have HO := Lib.hid (rounds_ok ⟨p, q, r, s⟩ HF.out k)
    by_cases hlt : k < n
    · have HN := Lib.hid (show rounds ⟨p, q, r, s⟩ (k + 1) = round (rounds ⟨p, q, r, s⟩ k) from rfl)
      generalize rounds ⟨p, q, r, s⟩ k = F at *
      obtain ⟨P, Q, R, S⟩ := F
      obtain ⟨⟨p0, p1⟩, ⟨q0, q1⟩, ⟨r0, r1⟩, ⟨s0, s1⟩⟩ := HO.out
      simp only at p0 p1 q0 q1 r0 r1 s0 s1
      go_wp2_with (go_at_call 84; (with_reducible refine (up_any _ _ _ (by first | assumption | exact (b64 _ _ _).1 | exact (rot64_bd _ _).1 | exact (wrap64_bd _).1 | omega) (by first | assumption | exact (b64 _ _ _).2 | exact (rot64_bd _ _).2 | exact (wrap64_bd _).2 | omega) (by decide) (by decide)).mono ?_); rintro e w' ⟨rfl, rfl⟩)
      go_round
      case rel =>
        refine ⟨k + 1, by omega, by go_num, ?_, ?_, ?_, ?_⟩ <;> rw [HN.out] <;> simp [round, add64, xor64, IntKind.wrap_u64]
      case measure => simp [intOf]; omega
    · obtain rfl : k = n := by omega
      go_wp2
      generalize rounds ⟨p, q, r, s⟩ k = F at *
      refine bodyPost_ret (v := .agg #[.int .u64 F.p, .int .u64 F.q, .int .u64 F.r, .int .u64 F.s]) (by simp [results, Try.results75, go_sem]) rfl ⟨rfl, ?_⟩
      repeat (first | (with_reducible exact Below.refl _ _) | refine Below.setCell ?_ (by simp) _ | refine Below.alloc ?_ (by simp) _ | refine below_drewN ?_ _)
theorem eight_key (K : Nat → Int) (A : Option Addr) (o : Nat) (i : Int) (hi : i = o) (ho : o ≤ 8) (w : World) (hb : Bytes w A (idL K)) :
    Calls Try.prog 74 #[.slice A 16 16, .int .i64 i] w fun e w' => e = .returned (.int .u64 (w8 (idL K) o)) ∧ w = w' := by
  subst hi; exact eight_any A (idL K) 16 16 o w hb rfl (by decide) (by omega)
def Four (w0 : World) (g : Nat) (f : Quad) (w : World) : Prop := Blk w g [.int .u64 f.p, .int .u64 f.q, .int .u64 f.r, .int .u64 f.s] 155 ∧ Below w0.heap.size w0 w
theorem rrounds_q (f : Quad) (n : Nat) (i : Int) (hi : i = n) (hn : n ≤ 1000) (w : World) (h : f.ok) :
    Calls Try.prog 75 #[.agg #[.int .u64 f.p, .int .u64 f.q, .int .u64 f.r, .int .u64 f.s], .int .i64 i] w fun e w' => e = .returned (.agg #[.int .u64 (rounds f n).p, .int .u64 (rounds f n).q, .int .u64 (rounds f n).r, .int .u64 (rounds f n).s]) ∧ Below w.heap.size w w' := by
  subst hi; exact rrounds_any f.p f.q f.r f.s n w h hn
theorem four_step (w0 w : World) (g : Nat) (a b c d p q r s e : Value) (f : Quad) (h : Blk w g [p, q, r, s] 155) (hb : Below w0.heap.size w0 w) (hg : w0.heap.size ≤ g) (e0 : e = .int .u64 f.p) (e1 : b = .int .u64 f.q) (e2 : c = .int .u64 f.r) (e3 : d = .int .u64 f.s) :
    Four w0 g f (((((w.setCell ⟨g, 0, none⟩ a).setCell ⟨g, 1, none⟩ b).setCell ⟨g, 2, none⟩ c).setCell ⟨g, 3, none⟩ d).setCell ⟨g, 0, none⟩ e) := by
  subst e0; subst e1; subst e2; subst e3
  exact ⟨((((h.set_ 0 _).set_ 1 _).set_ 2 _).set_ 3 _).set_ 0 _, ((((hb.setCell hg _).setCell hg _).setCell hg _).setCell hg _).setCell hg _⟩
theorem six_below {w0 w : World} {B g : Nat} (h : Below B w0 w) (hg : B ≤ g) (a b c d e f : Value) :
    Below B w0 ((((((w.setCell ⟨g, 0, none⟩ a).setCell ⟨g, 1, none⟩ b).setCell ⟨g, 2, none⟩ c).setCell ⟨g, 3, none⟩ d).setCell ⟨g, 0, none⟩ e).setCell ⟨g, 2, none⟩ f) :=
  (((((h.setCell hg _).setCell hg _).setCell hg _).setCell hg _).setCell hg _).setCell hg _
theorem six_sets {w : World} {g : Nat} {p q r s : Value} {T : TypeId} (h : Blk w g [p, q, r, s] T) (a b c d e f : Value) :
    Blk ((((((w.setCell ⟨g, 0, none⟩ a).setCell ⟨g, 1, none⟩ b).setCell ⟨g, 2, none⟩ c).setCell ⟨g, 3, none⟩ d).setCell ⟨g, 0, none⟩ e).setCell ⟨g, 2, none⟩ f) g [e, b, f, d] T :=
  (((((h.set_ 0 _).set_ 1 _).set_ 2 _).set_ 3 _).set_ 0 _).set_ 2 _
theorem quad_next (key l : List Int) (k : Nat) (o : Nat) (ho : o = 8 * k) : quadAt key l (k + 1) = quadPlus (quadAt key l k) (w8 l o) := by subst ho; rfl
theorem quadPlus_two (f : Quad) (m : Int) : quadPlus f m = ⟨bits .xor .u64 (rounds ⟨f.p, f.q, f.r, bits .xor .u64 f.s m⟩ 2).p m, (rounds ⟨f.p, f.q, f.r, bits .xor .u64 f.s m⟩ 2).q, (rounds ⟨f.p, f.q, f.r, bits .xor .u64 f.s m⟩ 2).r, (rounds ⟨f.p, f.q, f.r, bits .xor .u64 f.s m⟩ 2).s⟩ := rfl
theorem sipEnd_two (f : Quad) (m : Int) : sipEnd f m = bits .xor .u64 (bits .xor .u64 (bits .xor .u64 (rounds ⟨bits .xor .u64 (rounds ⟨f.p, f.q, f.r, bits .xor .u64 f.s m⟩ 2).p m, (rounds ⟨f.p, f.q, f.r, bits .xor .u64 f.s m⟩ 2).q, bits .xor .u64 (rounds ⟨f.p, f.q, f.r, bits .xor .u64 f.s m⟩ 2).r 255, (rounds ⟨f.p, f.q, f.r, bits .xor .u64 f.s m⟩ 2).s⟩ 4).p (rounds ⟨bits .xor .u64 (rounds ⟨f.p, f.q, f.r, bits .xor .u64 f.s m⟩ 2).p m, (rounds ⟨f.p, f.q, f.r, bits .xor .u64 f.s m⟩ 2).q, bits .xor .u64 (rounds ⟨f.p, f.q, f.r, bits .xor .u64 f.s m⟩ 2).r 255, (rounds ⟨f.p, f.q, f.r, bits .xor .u64 f.s m⟩ 2).s⟩ 4).q) (rounds ⟨bits .xor .u64 (rounds ⟨f.p, f.q, f.r, bits .xor .u64 f.s m⟩ 2).p m, (rounds ⟨f.p, f.q, f.r, bits .xor .u64 f.s m⟩ 2).q, bits .xor .u64 (rounds ⟨f.p, f.q, f.r, bits .xor .u64 f.s m⟩ 2).r 255, (rounds ⟨f.p, f.q, f.r, bits .xor .u64 f.s m⟩ 2).s⟩ 4).r) (rounds ⟨bits .xor .u64 (rounds ⟨f.p, f.q, f.r, bits .xor .u64 f.s m⟩ 2).p m, (rounds ⟨f.p, f.q, f.r, bits .xor .u64 f.s m⟩ 2).q, bits .xor .u64 (rounds ⟨f.p, f.q, f.r, bits .xor .u64 f.s m⟩ 2).r 255, (rounds ⟨f.p, f.q, f.r, bits .xor .u64 f.s m⟩ 2).s⟩ 4).s := rfl
set_option maxRecDepth 100000 in
set_option maxHeartbeats 2000000 in
theorem rsip_any (K : Nat → Int) (A : Option Addr) (l : List Int) (len cap : Nat) (w : World) (hk : IdOk K) (hb : Bytes w A l) (hL : l.length = len) (hmax : len ≤ 800000) :
    Calls Try.prog 62 #[idV K, .slice A len cap] w fun e w' => e = .returned (.int .u64 (sipS (idL K) l)) ∧ Below w.heap.size w w' := by
  have HK := Lib.hid (id_boxed 35 K hk w)
  have HB := Lib.hid (And.intro hb hL)
  have HQ := Lib.hid (quadAt_ok (idL K) l)
  clear hb hL
  have HE0 := Lib.hid fun n => quiet_kept (n := n) (eight_key K _ 0 0 rfl (by decide) _ (HK.out.drewN n))
  have HE8 := Lib.hid fun n => quiet_kept (n := n) (eight_key K _ 8 8 rfl (by decide) _ (HK.out.drewN n))
  go_enter Try.func62, Try.ntmps62
  go_wp2
  go_quiet ((go_at_call 74; first | with_reducible exact HE0.out _ | with_reducible exact HE8.out _))
  go_wp2
  go_loopw [8] (fun i wr => ∃ k o : Nat, Hid (o = 8 * k) ∧ o ≤ len ∧ i = .int .i64 o ∧ Hid (Four w (w.heap.size + 1) (quadAt (idL K) l k) wr)) (fun i _ => len - (intOf i).toNat)
  case atStart => exact ⟨0, 0, Lib.hid rfl, Nat.zero_le _, rfl, Lib.hid ⟨Blk.new_at _ _ _ _ (by simp), below_drewN ((Below.refl _ _).alloc (Nat.le_refl _) _) _ |>.alloc (by simp) _⟩⟩
  case round =>
    obtain ⟨k, o, ho, hlt, rfl, hr⟩ := hrel
    have R1 := Lib.hid hr.out.1
    have R2 := Lib.hid hr.out.2
    have hz := R1.out.lt
    have HM := Lib.hid (eight_any A l len cap o wr (HB.out.1.below R2.out (Nat.le_refl _)) HB.out.2 (by omega) (by omega))
    have HO := Lib.hid (HQ.out k)
    have hn := quad_next (idL K) l k o ho.out
    rw [quadPlus_two] at hn
    have HN := Lib.hid hn
    clear hn
    have HR := Lib.hid fun W => rrounds_q ⟨(quadAt (idL K) l k).p, (quadAt (idL K) l k).q, (quadAt (idL K) l k).r, bits .xor .u64 (quadAt (idL K) l k).s (w8 l o)⟩ 2 2 rfl (by decide) W ⟨HO.out.1, HO.out.2.1, HO.out.2.2.1, b64 .xor _ _⟩
    simp only at HR
    have g0 := R1.out.cell (i := 0) rfl
    have g1 := R1.out.cell (i := 1) rfl
    have g2 := R1.out.cell (i := 2) rfl
    have g3 := R1.out.cell (i := 3) rfl
    have f0 := R1.out.frozen 0
    have f1 := R1.out.frozen 1
    have f2 := R1.out.frozen 2
    have f3 := R1.out.frozen 3
    by_cases h8 : o + 8 ≤ len
    · have hd : decide (o + 8 ≤ len) = true := by simpa using h8
      generalize rounds ⟨(quadAt (idL K) l k).p, (quadAt (idL K) l k).q, (quadAt (idL K) l k).r, bits .xor .u64 (quadAt (idL K) l k).s (w8 l o)⟩ 2 = G at *
      generalize quadAt (idL K) l k = F at *
      generalize w8 l o = m at *
      go_wp2_with (first | (go_at_call 74; (with_reducible refine HM.out.mono ?_); rintro e w' ⟨rfl, rfl⟩) | (go_at_call 75; (with_reducible refine (HR.out _).mono ?_); rintro e w2 ⟨rfl, hb2⟩; have R3 := Lib.hid ((R1.out.set_ 3 _).below hb2 (by simpa using hz)); have c0 := R3.out.cell (i := 0) rfl; have c1 := R3.out.cell (i := 1) rfl; have c2 := R3.out.cell (i := 2) rfl; have c3 := R3.out.cell (i := 3) rfl; have h0 := R3.out.frozen 0; have h1 := R3.out.frozen 1; have h2 := R3.out.frozen 2; have h3 := R3.out.frozen 3))
      go_roundw
      case rel =>
        have hzw := R2.out.size
        refine ⟨k + 1, o + 8, Lib.hid (by have := ho.out; omega), by omega, by go_num, Lib.hid (four_step w w2 (w.heap.size + 1) _ _ _ _ _ _ _ _ _ _ R3.out ((R2.out.setCell (by simp) _).trans (hb2.mono (by simpa using hzw))) (by simp) ?_ ?_ ?_ ?_)⟩ <;> rw [HN.out]
      case measure => simp [intOf]; omega
    · have hd : decide (o + 8 ≤ len) = false := by simpa using h8
      clear HN HR
      have hk : l.length / 8 = k := by rw [HB.out.2]; have := ho.out; omega
      obtain ⟨M, hM⟩ : ∃ M, bits .or .u64 (w8 l o) ((len : Int) % 256 * 72057594037927936) = M := ⟨_, rfl⟩
      have he := (show sipS (idL K) l = sipEnd (quadAt (idL K) l k) M by
        unfold sipS last8; rw [hk, HB.out.2, ← ho.out, hM])
      rw [sipEnd_two] at he
      have HE := Lib.hid he
      clear he
      have HR := Lib.hid fun W => rrounds_q ⟨(quadAt (idL K) l k).p, (quadAt (idL K) l k).q, (quadAt (idL K) l k).r, bits .xor .u64 (quadAt (idL K) l k).s M⟩ 2 2 rfl (by decide) W ⟨HO.out.1, HO.out.2.1, HO.out.2.2.1, b64 .xor _ _⟩
      have HG := Lib.hid (rounds_ok ⟨(quadAt (idL K) l k).p, (quadAt (idL K) l k).q, (quadAt (idL K) l k).r, bits .xor .u64 (quadAt (idL K) l k).s M⟩ ⟨HO.out.1, HO.out.2.1, HO.out.2.2.1, b64 .xor _ _⟩ 2)
      simp only at HR
      clear hk
      generalize rounds ⟨(quadAt (idL K) l k).p, (quadAt (idL K) l k).q, (quadAt (idL K) l k).r, bits .xor .u64 (quadAt (idL K) l k).s M⟩ 2 = G at HE HR HG
      generalize quadAt (idL K) l k = F at *
      have HR4 := Lib.hid fun W => rrounds_q ⟨bits .xor .u64 G.p M, G.q, bits .xor .u64 G.r 255, G.s⟩ 4 4 rfl (by decide) W ⟨b64 .xor _ _, HG.out.2.1, b64 .xor _ _, HG.out.2.2.2⟩
      simp only at HR4
      generalize rounds ⟨bits .xor .u64 G.p M, G.q, bits .xor .u64 G.r 255, G.s⟩ 4 = J at HE HR4
      generalize w8 l o = m at HM hM
      go_upto_region 15 with (first | (go_at_call 74; (with_reducible refine HM.out.mono ?_); rintro e w' ⟨rfl, rfl⟩) | (go_at_call 75; (with_reducible refine (HR.out _).mono ?_); rintro e w2 ⟨rfl, hb2⟩; have R3 := Lib.hid ((R1.out.set_ 3 _).below hb2 (by simpa using hz)); have c0 := R3.out.cell (i := 0) rfl; have c1 := R3.out.cell (i := 1) rfl; have c2 := R3.out.cell (i := 2) rfl; have c3 := R3.out.cell (i := 3) rfl; have h0 := R3.out.frozen 0; have h1 := R3.out.frozen 1; have h2 := R3.out.frozen 2; have h3 := R3.out.frozen 3; have hz2 := R3.out.lt; clear hM g0 g1 g2 g3 f0 f1 f2 f3) | (go_at_call 75; go_must ((with_reducible refine (HR4.out _).mono ?_); rintro e w4 ⟨rfl, hb4⟩; have R4 := Lib.hid ((((((R3.out.set_ 0 _).set_ 1 _).set_ 2 _).set_ 3 _).set_ 0 _).set_ 2 _ |>.below hb4 (by simpa using hz2)); have a0 := R4.out.cell (i := 0) rfl; have a1 := R4.out.cell (i := 1) rfl; have a2 := R4.out.cell (i := 2) rfl; have a3 := R4.out.cell (i := 3) rfl; have b0 := R4.out.frozen 0; have b1 := R4.out.frozen 1; have b2 := R4.out.frozen 2; have b3 := R4.out.frozen 3; clear c0 c1 c2 c3 h0 h1 h2 h3)))
      have hzw := R2.out.size
      have k2 : Below w.heap.size w w2 := (R2.out.setCell (by simp) _).trans (hb2.mono (by simpa using hzw))
      have k5 := six_below k2 (g := w.heap.size + 1) (by simp) (.int .u64 G.p) (.int .u64 G.q) (.int .u64 G.r) (.int .u64 G.s) (.int .u64 (bits .xor .u64 G.p M)) (.int .u64 (bits .xor .u64 G.r 255))
      have R5 := six_sets R3.out (.int .u64 G.p) (.int .u64 G.q) (.int .u64 G.r) (.int .u64 G.s) (.int .u64 (bits .xor .u64 G.p M)) (.int .u64 (bits .xor .u64 G.r 255))
      generalize (((((w2.setCell ⟨w.heap.size + 1, 0, none⟩ (.int .u64 G.p)).setCell ⟨w.heap.size + 1, 1, none⟩ (.int .u64 G.q)).setCell ⟨w.heap.size + 1, 2, none⟩ (.int .u64 G.r)).setCell ⟨w.heap.size + 1, 3, none⟩ (.int .u64 G.s)).setCell ⟨w.heap.size + 1, 0, none⟩ (.int .u64 (bits .xor .u64 G.p M))).setCell ⟨w.heap.size + 1, 2, none⟩ (.int .u64 (bits .xor .u64 G.r 255)) = w5 at k5 R5 ⊢
      have hz5 := R5.lt
      have R5 := Lib.hid R5
      have c0 := R5.out.cell (i := 0) rfl
      have c1 := R5.out.cell (i := 1) rfl
      have c2 := R5.out.cell (i := 2) rfl
      have c3 := R5.out.cell (i := 3) rfl
      have h0 := R5.out.frozen 0
      have h1 := R5.out.frozen 1
      have h2 := R5.out.frozen 2
      have h3 := R5.out.frozen 3
      go_wp2_with (go_at_call 75; (with_reducible refine (HR4.out _).mono ?_); rintro e w4 ⟨rfl, hb4⟩; have R4 := Lib.hid (R5.out.below hb4 hz5); have a0 := R4.out.cell (i := 0) rfl; have a1 := R4.out.cell (i := 1) rfl; have a2 := R4.out.cell (i := 2) rfl; have a3 := R4.out.cell (i := 3) rfl; have b0 := R4.out.frozen 0; have b1 := R4.out.frozen 1; have b2 := R4.out.frozen 2; have b3 := R4.out.frozen 3; clear c0 c1 c2 c3 h0 h1 h2 h3)
      go_ret
      refine ⟨ret_int HE.out.symm, ?_⟩
      have k4 : Below w.heap.size w w4 := k5.trans (hb4.mono (by omega))
      repeat (first | (with_reducible exact k4) | refine Below.setCell ?_ (by simp) _)
end Go.Proofs.Ytkdbgilnehjpmaa.Sb
/-
  What the document's own rounds, and its Sip, answer; and the program's.
-/
namespace Go.Proofs.Ytkdbgilnehjpmaa.Sb
end Go.Proofs.Ytkdbgilnehjpmaa.Sb
/-
  What a Sum is in memory, and what New makes.
-/
namespace Go.Proofs.Ytkdbgilnehjpmaa.Sc
open Go.ChangeShapes Go.WideShapes Go.ChangeAt Go.RowKit
open Bytes8 Blk8 LeNum LeA LeB Hm Ha Hb He Sa Sb Sm
set_option linter.unusedVariables false
set_option maxRecDepth 100000
end Go.Proofs.Ytkdbgilnehjpmaa.Sc
/-
  What the document's own Of answers.
-/
namespace Go.Proofs.Ytkdbgilnehjpmaa.Sg
open Go.ChangeShapes Go.WideShapes Go.ChangeAt Go.RowKit
open Bytes8 Blk8 LeNum Hm Ha Hb He Sb Se
set_option linter.unusedVariables false
set_option maxRecDepth 100000
def ofS (t : Bool) (key l : List Int) : Int := if t then sipS key l else lookS l
theorem rof_any (t : Bool) (K : Nat → Int) (A : Option Addr) (l : List Int) (len cap : Nat) (w : World) (hk : IdOk K) (hb : Bytes w A l) (hL : l.length = len) (hmax : len ≤ 800000) :
    Calls Try.prog 37 #[.bool t, idV K, .slice A len cap] w fun e w' => e = .returned (.int .u64 (ofS t (idL K) l)) ∧ Below w.heap.size w w' := by
  have HB := Lib.hid hb
  cases t with
  | true =>
    have HC := Lib.hid (rsip_any K A l len cap (w.alloc (idC 35 K)) hk (hb.below ((Below.refl _ _).alloc (Nat.le_refl _) _) (Nat.le_refl _)) hL hmax)
    clear hb
    go_enter Try.func37, Try.ntmps37
    go_wp2_with (go_at_call 62; (with_reducible refine HC.out.mono ?_); rintro e w1 ⟨rfl, hb1⟩)
    go_ret
    exact ⟨rfl, ((Below.refl w.heap.size w).alloc (Nat.le_refl _) _).trans (hb1.mono (by simp))⟩
  | false =>
    have HC := Lib.hid (rlook_all A l len cap (w.alloc (idC 35 K)) (hb.below ((Below.refl _ _).alloc (Nat.le_refl _) _) (Nat.le_refl _)) hL hmax)
    clear hb
    go_enter Try.func37, Try.ntmps37
    go_wp2_with (go_at_call 63; (with_reducible refine HC.out.mono ?_); rintro e w' ⟨rfl, rfl⟩)
    go_ret
    exact ⟨rfl, (Below.refl w.heap.size w).alloc (Nat.le_refl _) _⟩
end Go.Proofs.Ytkdbgilnehjpmaa.Sg
/-
  Xor of payloads: plain, and the program's.
-/
namespace Go.Proofs.Ytkdbgilnehjpmaa.Ya
open Go.ChangeShapes Go.WideShapes Go.ChangeAt Go.RowKit
open Bytes8 Blk8 Own8 OwnM OwnE OwnA LeNum Hm Ha Hb Hc Hd He Hf Se Rows2 Dc Ff
set_option linter.unusedVariables false
set_option linter.unusedSimpArgs false
set_option maxRecDepth 100000
theorem ans_bd (t : Trio) : 0 ≤ ans t ∧ ans t ≤ 18446744073709551615 := b64 _ _ _
theorem lookS_bd (l : List Int) : 0 ≤ lookS l ∧ lookS l ≤ 18446744073709551615 := by
  unfold lookS
  split <;> exact ans_bd _
def lookN (l : List Int) : Nat := (lookS l).toNat
theorem lookN_is (l : List Int) : lookS l = (lookN l : Int) := by unfold lookN; have := lookS_bd l; omega
theorem lookN_lt (l : List Int) : lookN l < 2 ^ 64 := by unfold lookN; have := lookS_bd l; omega
/-- Xor of rows. -/
def xr (l : List (List Int)) : Nat := l.foldr (fun p v => v ^^^ lookN p) 0
theorem xr_nil : xr [] = 0 := rfl
theorem xr_cons (p : List Int) (l : List (List Int)) : xr (p :: l) = xr l ^^^ lookN p := rfl
theorem xr_lt (l : List (List Int)) : xr l < 2 ^ 64 := by
  induction l with
  | nil => decide
  | cons p l ih => rw [xr_cons]; exact Nat.xor_lt_two_pow ih (lookN_lt p)
theorem xr_app (l m : List (List Int)) : xr (l ++ m) = xr l ^^^ xr m := by
  induction l with
  | nil => simp [xr_nil]
  | cons p l ih => rw [List.cons_append, xr_cons, xr_cons, ih, Nat.xor_assoc, Nat.xor_assoc, Nat.xor_comm (xr m)]
theorem xr_snoc (l : List (List Int)) (p : List Int) : xr (l ++ [p]) = xr l ^^^ lookN p := by rw [xr_app, xr_cons, xr_nil, Nat.zero_xor]
/-- The rows up to the k-th. -/
def rowsL (P : Nat → List Int) (k : Nat) : List (List Int) := (List.range k).map P
theorem rowsL_succ (P : Nat → List Int) (k : Nat) : rowsL P (k + 1) = rowsL P k ++ [P k] := by simp [rowsL, List.range_succ]
theorem xr_step (P : Nat → List Int) (k : Nat) : xr (rowsL P (k + 1)) = xr (rowsL P k) ^^^ lookN (P k) := by rw [rowsL_succ, xr_snoc]
theorem xr_bits (P : Nat → List Int) (k : Nat) : bits .xor .u64 ((xr (rowsL P k) : Nat) : Int) (lookS (P k)) = ((xr (rowsL P (k + 1)) : Nat) : Int) := by
  rw [lookN_is, xr_step]
  exact u64_xor_nat _ _ (xr_lt _) (lookN_lt _)
end Go.Proofs.Ytkdbgilnehjpmaa.Ya
/-
  Rows of payloads that a statement gathers; the chapter's example of Xor.
-/
namespace Go.Proofs.Ytkdbgilnehjpmaa.Yb
open Go.ChangeShapes Go.WideShapes Go.ChangeAt Go.RowKit
open Bytes8 Blk8 Own8 OwnM OwnE OwnA LeNum Hm Ha Hb Hc Hd He Hf Se Rows2 Dc Ff Ya Fa
set_option linter.unusedVariables false
set_option linter.unusedSimpArgs false
set_option maxRecDepth 100000
end Go.Proofs.Ytkdbgilnehjpmaa.Yb
