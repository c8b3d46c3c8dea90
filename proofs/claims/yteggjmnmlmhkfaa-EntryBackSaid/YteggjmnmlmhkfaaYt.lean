/-
  Two appends of items: all of a row to an empty literal, and one item more; run by equations.
-/
import Derived.Test.YteggjmnmlmhkfaaYs
import Derived.Test.YteggjmnmlmhkfaaOwnF
namespace Go.Proofs.Yteggjmnmlmhkfaa.Yt
open Go.ChangeShapes Go.WideShapes Go.ChangeAt Go.RowKit
open Bytes8 Blk8 Own8 OwnM OwnE OwnA Dc Rows2 Yc Yp Yd Yg Yi Ys
set_option linter.unusedVariables false
set_option linter.unusedSimpArgs false
set_option maxRecDepth 100000

theorem itemElt : Elt 56 27 2 16 (.agg #[.int .u64 0, .int .u64 0]) := ⟨Try.underlying27, by kernel_rfl, rfl, by decide⟩
/-- Go's append, under a name of its own: it is met by an equation. -/
def appS (S ty : TypeId) (args : Array Value) : Sem Value := Builtin.append_ #[S, S] ty args
theorem app_fold (S ty : TypeId) (args : Array Value) : Builtin.append_ #[S, S] ty args = appS S ty args := rfl
theorem two_one (f g : Nat → Int) (k : Nat) : ∀ u ∈ two f g k, u.oneCell' = true := by
  induction k with
  | zero => intro u hu; simp [two, prs] at hu
  | succ k ih =>
    intro u hu
    rw [two_succ] at hu
    rcases List.mem_append.1 hu with h | h
    · exact ih u h
    · simp at h
      rcases h with rfl | rfl <;> rfl
theorem lit_own {W : World} {base E : Nat} (hE : Blk W E [] 56) (hb : base ≤ E) : OwnE 56 2 W base (some ⟨E, 0, none⟩) 0 0 [] := by
  have hEl := hE.lt
  exact ⟨by omega, rfl, .inr ⟨E, 0, #[], rfl, hb, hE, Nat.le_refl _, by decide, rfl, rfl⟩⟩
theorem two_news {W : World} {base b off m c : Nat} {f g : Nat → Int} (h : OwnE 56 2 W base (some ⟨b, off, none⟩) m c (two f g m)) : ∀ j u, (two f g m)[j]? = some u → W.cell? ((⟨b, off, none⟩ : Addr).add j) = some u := fun j u hj => by
  have hjl : j < (two f g m).length := (List.getElem?_eq_some_iff.1 hj).1
  obtain ⟨g, e1, _, _, e4⟩ := h.cell hjl
  injection e1 with e1
  rw [e1, add_none, Nat.zero_add, e4, hj]
/-- All items, appended to an empty literal. -/
theorem push_all {w W1 : World} {A : Option Addr} {m c b0 base : Nat} {f g : Nat → Int} (h : OwnE 56 2 w b0 A m c (two f g m)) (hb : Below w.heap.size w W1) (E : Nat) (hE : Blk W1 E [] 56) (hbase : base ≤ E) (hm : m ≤ 2000000) :
    ∃ A2 c2 w2, (appS 27 27 #[.slice (some ⟨E, 0, none⟩) 0 0, .slice A m c]).run Try.prog W1 = .ok (.slice A2 m c2) w2 ∧ OwnE 56 2 w2 base A2 m c2 (two f g m) ∧ W1.grownBy w2 (some E) ∧ ∀ k, ownB A2 = some k → k = E ∨ k = W1.heap.size := by
  have hEl := hE.lt
  have hO : OwnE 56 2 W1 base (some ⟨E, 0, none⟩) 0 0 [] := ⟨by omega, rfl, .inr ⟨E, 0, #[], rfl, hbase, hE, Nat.le_refl _, by decide, rfl, rfl⟩⟩
  cases A with
  | none =>
    have h0 : m = 0 ∧ c = 0 := by
      rcases h.2.2 with ⟨he, h0⟩ | ⟨g, cap, cur, he, _⟩
      · injection he with e1 e2 e3; exact ⟨h0, e3⟩
      · injection he with e1; cases e1
    obtain ⟨rfl, rfl⟩ := h0
    obtain ⟨i, hi, hzz⟩ := Option.map_eq_some_iff.1 itemElt.info
    refine ⟨some ⟨E, 0, none⟩, 0, W1, ?_, hO, World.grownBy.refl _ _, fun k e => .inl (by injection e with e; exact e.symm)⟩
    simp [appS, Builtin.append_, run_underlying Try.underlying27, sizeOf, typeInfo, hi, Builtin.lenOf, Builtin.firstCells, storeCells]
  | some a =>
    have hk := h.kept hb (Nat.le_refl _)
    have hl := h.len
    have hnews : ∀ j u, (two f g m)[j]? = some u → W1.cell? (a.add j) = some u := fun j u hj => by
      have hjl : j < (two f g m).length := (List.getElem?_eq_some_iff.1 hj).1
      obtain ⟨g, e1, _, _, e4⟩ := hk.cell hjl
      injection e1 with e1
      rw [e1, add_none, Nat.zero_add, e4, hj]
    obtain ⟨A2, c2, w2, hr, ho, hg, hat⟩ := run_append_elt_at itemElt W1 27 base (some ⟨E, 0, none⟩) 0 0 [] hO a m c (two f g m) hl hnews (two_one f g m) (by omega) (by omega) (by unfold maxLen; omega)
    rw [Nat.zero_add] at hr ho
    rw [List.nil_append] at ho
    refine ⟨A2, c2, w2, hr, ho, hg, fun k e => ?_⟩
    rcases hat with e2 | e2
    · rw [e] at e2; injection e2 with e2; exact .inl e2
    · rw [e] at e2; injection e2 with e2; exact .inr e2
/-- One item more. -/
theorem push_one {w W1 : World} {A : Option Addr} {m c base : Nat} {l : List Value} (h : OwnE 56 2 w base A m c l) (hb : Below w.heap.size w W1) (x y : Int) (R : Nat) (hR : Blk W1 R [.int .u64 x, .int .u64 y] 56) (hm : m ≤ 2000000) :
    ∃ A2 c2 w2, (appS 27 27 #[.slice A m c, .slice (some ⟨R, 0, none⟩) 1 1]).run Try.prog W1 = .ok (.slice A2 (m + 1) c2) w2 ∧ OwnE 56 2 w2 base A2 (m + 1) c2 (l ++ [.int .u64 x, .int .u64 y]) ∧ W1.grownBy w2 (ownB A) := by
  obtain ⟨A2, c2, w2, hr, ho, hg, _⟩ := run_append_elt_at itemElt W1 27 base A m c _ (h.kept hb (Nat.le_refl _)) ⟨R, 0, none⟩ 1 1 [.int .u64 x, .int .u64 y] rfl (Blk.news hR) (by intro u hu; simp at hu; rcases hu with rfl | rfl <;> rfl) (by omega) (by omega) (by unfold maxLen; omega)
  exact ⟨A2, c2, w2, hr, ho, hg⟩
/-- What the longer row tells. -/
theorem bad_two (f g : Nat → Int) (n j : Nat) (z : Int) : two f g n ++ [.int .u64 (f j), .int .u64 z] = two (badF f n j) (fun i => if i < n then g i else z) (n + 1) := by
  rw [two_succ]
  congr 1
  · exact congrArg (List.map (Value.int .u64)) (prs_cong (f2 := badF f n j) (g2 := fun i => if i < n then g i else z) fun i hi => ⟨(if_pos hi).symm, (if_pos hi).symm⟩)
  · simp [badF]
end Go.Proofs.Yteggjmnmlmhkfaa.Yt
