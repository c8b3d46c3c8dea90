/-
  Words for bytes that a call gathers by append: what it owns, and 'append' onto it from bytes that can be read.
-/
import Derived.Test.YtpfkhcgeblihcaaDoorBytes
import Derived.Laws.AppendOwn
import Derived.Laws.OwnMore
import Derived.Deep.RegionLaw
import Derived.BigQuiet
namespace Go.Proofs.YtpfkhcgeblihcaaDoor.Own8
open Go.ChangeShapes Go.WideShapes Go.ChangeAt Go.RowKit
open Bytes8
set_option linter.unusedVariables false
set_option maxRecDepth 100000

/-- The slice value '.slice A n c' is the call's own: its bytes are l, in a block from base on, or it is nil. -/
def Own (w : World) (base : Nat) (A : Option Addr) (n c : Nat) (l : List Int) : Prop :=
  AllB l ∧ l.length = n ∧ base ≤ w.heap.size ∧ w.ownsRow base 5 1 (.slice A n c) n (l.map (Value.int .u8))

theorem Own.nil (w : World) (base : Nat) (h : base ≤ w.heap.size) : Own w base none 0 0 [] := ⟨(fun _ h => by cases h), rfl, h, World.ownsRow_nil _ _ _ _⟩
theorem Own.made (w : World) (base : Nat) (h : base ≤ w.heap.size) : Own (w.alloc (.cells #[] 5)) base (some ⟨w.heap.size, 0, none⟩) 0 0 [] :=
  ⟨(fun _ h => by cases h), rfl, Nat.le_trans h (by simp), World.ownsRow_lit w #[] 0 h (by decide) rfl⟩

theorem Own.lt {w : World} {base : Nat} {A : Option Addr} {n c : Nat} {l : List Int} (h : Own w base A n c l) : ∀ k, (Value.slice A n c).ownBlock = some k → base ≤ k ∧ k < w.heap.size := h.2.2.2.lt

theorem Own.bytes {w : World} {base : Nat} {A : Option Addr} {n c : Nat} {l : List Int} (h : Own w base A n c l) : Bytes w A l := by
  obtain ⟨hA, hn, _, ho⟩ := h
  refine ⟨hA, fun i hi => ?_⟩
  rcases ho.2 with ⟨he, h0⟩ | ⟨g, cap, cur, hv, hb, hg, _⟩
  · omega
  · injection hv with h1 h2 h3
    subst h1
    have hlt : g < w.heap.size := by
      rcases Nat.lt_or_ge g w.heap.size with h | h
      · exact h
      · rw [Array.getElem?_eq_none h] at hg; cases hg
    refine ⟨g, 0, rfl, hlt, ?_⟩
    rw [Nat.zero_add, ho.cellAt i (by omega)]
    simp [List.getElem?_eq_getElem hi]

theorem Own.kept {w w' : World} {base B : Nat} {A : Option Addr} {n c : Nat} {l : List Int} (h : Own w base A n c l) (hb : Below B w w') (hB : w.heap.size ≤ B) : Own w' base A n c l := by
  refine ⟨h.1, h.2.1, Nat.le_trans h.2.2.1 hb.size, h.2.2.2.1, ?_⟩
  rcases h.2.2.2.2 with h1 | ⟨g, cap, cur, h1, h2, h3, h4⟩
  · exact .inl h1
  · refine .inr ⟨g, cap, cur, h1, h2, ?_, h4⟩
    have hlt : g < w.heap.size := by
      rcases Nat.lt_or_ge g w.heap.size with h | h
      · exact h
      · rw [Array.getElem?_eq_none h] at h3; cases h3
    rw [hb.block g (by omega)]; exact h3

theorem Own.drew {w : World} {base : Nat} {A : Option Addr} {n c : Nat} {l : List Int} (h : Own w base A n c l) : Own w.drew base A n c l := h

theorem Own.far {w : World} {base : Nat} {A : Option Addr} {n c : Nat} {l : List Int} (h : Own w base A n c l) {a : Addr} (ha : a.block < base) (u : Value) : Own (w.setCell a u) base A n c l :=
  ⟨h.1, h.2.1, by simpa using h.2.2.1, ownsRow_setCell_below h.2.2.2 ha u⟩
theorem Own.alloc {w : World} {base : Nat} {A : Option Addr} {n c : Nat} {l : List Int} (h : Own w base A n c l) (o : Obj) : Own (w.alloc o) base A n c l := h.kept ((Below.refl _ _).alloc (Nat.le_refl _) o) (Nat.le_refl _)

theorem ones (l : List Int) : ∀ u ∈ l.map (Value.int .u8), u.oneCell' = true := by
  intro v hv; obtain ⟨x, _, rfl⟩ := List.mem_map.1 hv; rfl

theorem below_grown {w w' : World} {base : Nat} {row : Option Nat} (hg : w.grownBy w' row) (hb : base ≤ w.heap.size) (hr : ∀ k, row = some k → base ≤ k) : Below base w w' :=
  (Below.refl base w).grown hg hb hr

theorem run_append_bytes (w : World) (ty : TypeId) (base : Nat) (A : Option Addr) (n c : Nat) (l : List Int) (ho : Own w base A n c l) (A2 : Option Addr) (m c2 : Nat) (ys : List Int) (hb : Bytes w A2 ys) (hm : ys.length = m) (hsz : n + m ≤ 70368744177664) :
    ∃ A' c' w', (Builtin.append_ #[53, 53] ty #[.slice A n c, .slice A2 m c2]).run Tryd.prog w = .ok (.slice A' (n + m) c') w' ∧ Own w' base A' (n + m) c' (l ++ ys) ∧ Below base w w' := by
  obtain ⟨i, hi, hzz⟩ := Option.map_eq_some_iff.1 info8
  simp only [Prod.mk.injEq] at hzz
  obtain ⟨hz, hs, hby⟩ := hzz
  have hown := ho.2.2.2
  have done : ∀ (v' : Value) (w' : World), w'.ownsRow base 5 1 v' (n + m) (l.map (Value.int .u8) ++ ys.map (Value.int .u8)) → w.grownBy w' (Value.slice A n c).ownBlock →
      ∃ A' c', v' = .slice A' (n + m) c' ∧ Own w' base A' (n + m) c' (l ++ ys) ∧ Below base w w' := by
    intro v' w' h2 h3
    have hbel := below_grown h3 ho.2.2.1 (fun k hk => (ho.lt k hk).1)
    have hL : (l ++ ys).length = n + m := by rw [List.length_append, ho.2.1, hm]
    rw [← List.map_append] at h2
    rcases h2.2 with ⟨rfl, h0⟩ | ⟨g, cap, cur, rfl, _⟩
    · rw [h0] at h2 hL ⊢
      exact ⟨none, 0, rfl, ⟨ho.1.app hb.1, hL, Nat.le_trans ho.2.2.1 hbel.size, h2⟩, hbel⟩
    · exact ⟨_, _, rfl, ⟨ho.1.app hb.1, hL, Nat.le_trans ho.2.2.1 hbel.size, h2⟩, hbel⟩
  have hlen : (ys.map (Value.int .u8)).length = m * 1 := by simp [hm]
  by_cases h0 : 0 < ys.length
  · obtain ⟨ad, rfl, hsrc⟩ := hb.source w (Below.refl _ _) h0
    obtain ⟨v', w', hr, h2, h3, _⟩ := run_append_own (P := Tryd.prog) w base 53 ty 5 i (.int .u8 0) 1 1 Tryd.underlying53 hi hz hs hby rfl (by decide) _ n _ hown ad m c2 (ys.map (Value.int .u8)) hlen
      (fun j u hu => by
        rw [List.getElem?_map] at hu
        obtain ⟨x, hx, rfl⟩ := Option.map_eq_some_iff.1 hu
        exact hsrc j x hx) (ones ys) (by unfold maxLen; omega) (by omega) ho.2.2.1
    obtain ⟨A', c', rfl, h4, h5⟩ := done v' w' h2 h3
    exact ⟨A', c', w', hr, h4, h5⟩
  · obtain rfl : ys = [] := List.eq_nil_of_length_eq_zero (by omega)
    obtain rfl : m = 0 := by simpa using hm.symm
    cases A2 with
    | some ad =>
      obtain ⟨v', w', hr, h2, h3, _⟩ := run_append_own (P := Tryd.prog) w base 53 ty 5 i (.int .u8 0) 1 1 Tryd.underlying53 hi hz hs hby rfl (by decide) _ n _ hown ad 0 c2 [] rfl
        (fun j u hu => by simp at hu) (fun u hu => by cases hu) (by unfold maxLen; omega) (by omega) ho.2.2.1
      obtain ⟨A', c', rfl, h4, h5⟩ := done v' w' h2 h3
      exact ⟨A', c', w', hr, h4, h5⟩
    | none =>
      refine ⟨A, c, w, ?_, ?_, Below.refl _ _⟩
      · rcases hown.2 with ⟨he, h0'⟩ | ⟨g, cap, cur, he, _, _, hnc, _⟩
        · injection he with e1 e2 e3
          subst e1; subst e2; subst e3
          simp [Builtin.append_, run_underlying Tryd.underlying53, sizeOf, typeInfo, hi, Builtin.lenOf, Builtin.firstCells]
        · injection he with e1 e2 e3
          subst e1; subst e3
          simp [Builtin.append_, run_underlying Tryd.underlying53, sizeOf, typeInfo, hi, Builtin.lenOf, Builtin.firstCells, hnc, storeCells]
      · rw [Nat.add_zero, List.append_nil]; exact ho

theorem wp_append_bytes {w : World} {o : Oper} {a : Act} {K : Act → World → Prop} {Q : Exit → Act → World → Prop} (s x : Operand)
    (hop : o.op = .call { callee := .builtin .append, args := #[s, x], argTypes := #[53, 53] })
    (base : Nat) (A : Option Addr) (n c : Nat) (l : List Int) (hs : a.eval s = .slice A n c) (ho : Own w base A n c l) (A2 : Option Addr) (m c2 : Nat) (ys : List Int) (hx : a.eval x = .slice A2 m c2) (hb : Bytes w A2 ys) (hm : ys.length = m) (hsz : n + m ≤ 70368744177664)
    (h : ∀ A' c' w', Own w' base A' (n + m) c' (l ++ ys) → Below base w w' → K (a.put o.dst (.slice A' (n + m) c')) w') : o.wp Tryd.prog a w K Q := by
  obtain ⟨A', c', w', hr, h1, h2⟩ := run_append_bytes w o.type base A n c l ho A2 m c2 ys hb hm hsz
  unfold Oper.wp execOp
  simp only [hop, resolve, invoke, builtin, Sem.run_bind, Sem.run_pure, Result.andThen_ok, List.map_toArray, List.map_cons, List.map_nil, hs, hx, hr]
  exact h A' c' w' h1 h2

theorem wpList_append_bytes {w : World} {ops : Array Oper} {rest : List Oper} {o : Oper} {a : Act} {Q : Exit → Act → World → Prop} (hgd : o.guard = none) (s x : Operand)
    (hop : o.op = .call { callee := .builtin .append, args := #[s, x], argTypes := #[53, 53] })
    (base : Nat) (A : Option Addr) (n c : Nat) (l : List Int) (hs : a.eval s = .slice A n c) (ho : Own w base A n c l) (A2 : Option Addr) (m c2 : Nat) (ys : List Int) (hx : a.eval x = .slice A2 m c2) (hb : Bytes w A2 ys) (hm : ys.length = m) (hsz : n + m ≤ 70368744177664)
    (h : ∀ A' c' w', Own w' base A' (n + m) c' (l ++ ys) → Below base w w' → wpList Tryd.prog ops Q rest (a.put o.dst (.slice A' (n + m) c')) w') : wpList Tryd.prog ops Q (o :: rest) a w :=
  wpList_plain hgd fun _ hK => wp_append_bytes s x hop base A n c l hs ho A2 m c2 ys hx hb hm hsz fun A' c' w' h1 h2 => hK _ _ (h A' c' w' h1 h2)

/-- .. where the operation has a guard that says yes. -/
theorem wpList_append_want {w : World} {ops : Array Oper} {rest : List Oper} {o : Oper} {a : Act} {Q : Exit → Act → World → Prop} (hw : Region.wanted o (yielded ops a.tmps) = true) (s x : Operand)
    (hop : o.op = .call { callee := .builtin .append, args := #[s, x], argTypes := #[53, 53] })
    (base : Nat) (A : Option Addr) (n c : Nat) (l : List Int) (hs : a.eval s = .slice A n c) (ho : Own w base A n c l) (A2 : Option Addr) (m c2 : Nat) (ys : List Int) (hx : a.eval x = .slice A2 m c2) (hb : Bytes w A2 ys) (hm : ys.length = m) (hsz : n + m ≤ 70368744177664)
    (h : ∀ A' c' w', Own w' base A' (n + m) c' (l ++ ys) → Below base w w' → wpList Tryd.prog ops Q rest (a.put o.dst (.slice A' (n + m) c')) w') : wpList Tryd.prog ops Q (o :: rest) a w :=
  BigFrame.wpList_want hw fun _ hK => wp_append_bytes s x hop base A n c l hs ho A2 m c2 ys hx hb hm hsz fun A' c' w' h1 h2 => hK _ _ (h A' c' w' h1 h2)

theorem step_append_bytes {w : World} {ops : Array Oper} {o : Oper} {a : Act} {K : Act → World → Prop} {Q : Exit → Act → World → Prop} {E : Prop} (hgd : o.guard = none) (s x : Operand)
    (hop : o.op = .call { callee := .builtin .append, args := #[s, x], argTypes := #[53, 53] })
    (base : Nat) (A : Option Addr) (n c : Nat) (l : List Int) (hs : a.eval s = .slice A n c) (ho : Own w base A n c l) (A2 : Option Addr) (m c2 : Nat) (ys : List Int) (hx : a.eval x = .slice A2 m c2) (hb : Bytes w A2 ys) (hm : ys.length = m) (hsz : n + m ≤ 70368744177664)
    (h : ∀ A' c' w', Own w' base A' (n + m) c' (l ++ ys) → Below base w w' → K (a.put o.dst (.slice A' (n + m) c')) w') :
    if Region.wanted o (yielded ops a.tmps) = true then Oper.wp Tryd.prog o a w K Q else E := by
  have hw : Region.wanted o (yielded ops a.tmps) = true := by simp [Region.wanted, hgd]
  rw [if_pos hw]
  exact wp_append_bytes s x hop base A n c l hs ho A2 m c2 ys hx hb hm hsz h
end Go.Proofs.YtpfkhcgeblihcaaDoor.Own8
