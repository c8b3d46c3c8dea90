/-
  Texts beneath the proof, one behind the other.
-/
import Derived.Laws.AppendOwn
import Derived.Laws.OwnMore
import Derived.Deep.RegionLaw
import Derived.BigQuiet
import Derived.Deep.QuietTactic
import Derived.Deep.Matrix
import Derived.ChangeSlices
import Derived.Laws.Concat
import Derived.Laws.StructEq
import Derived.Laws.Strings2
import Derived.Laws.Strings3
import Derived.Test.YtldkmobncmfodaaGreatQ1

/-
  Words for bytes that a call gathers by append: what it owns, and 'append' onto it from bytes that can be read.
-/
namespace Go.Proofs.YtldkmobncmfodaaGreat.Own8
open Go.ChangeShapes Go.WideShapes Go.ChangeAt Go.RowKit
open Bytes8
set_option linter.unusedVariables false
set_option maxRecDepth 100000

/-- The slice value '.slice A n c' is the call's own: its bytes are l, in a block from base on, or it is nil. -/
def Own (w : World) (base : Nat) (A : Option Addr) (n c : Nat) (l : List Int) : Prop :=
  AllB l ∧ l.length = n ∧ base ≤ w.heap.size ∧ w.ownsRow base 5 1 (.slice A n c) n (l.map (Value.int .u8))

theorem Own.nil (w : World) (base : Nat) (h : base ≤ w.heap.size) : Own w base none 0 0 [] := ⟨(fun _ h => by cases h), rfl, h, World.ownsRow_nil _ _ _ _⟩
theorem Own.made (w : World) (base : Nat) (h : base ≤ w.heap.size) : Own (w.alloc (.cells #[] 5)) base (some ⟨w.heap.size, 0, none⟩) 0 0 [] :=
  ⟨(fun _ h => by cases h), rfl, Nat.le_trans h (by simp), World.ownsRow_lit w #[] 0 h (by decide) rfl⟩

theorem Own.lt {w : World} {base : Nat} {A : Option Addr} {n c : Nat} {l : List Int} (h : Own w base A n c l) : ∀ k, (Value.slice A n c).ownBlock = some k → base ≤ k ∧ k < w.heap.size := h.2.2.2.lt

theorem Own.bytes {w : World} {base : Nat} {A : Option Addr} {n c : Nat} {l : List Int} (h : Own w base A n c l) : Bytes w A l := by
  obtain ⟨hA, hn, _, ho⟩ := h
  refine ⟨hA, fun i hi => ?_⟩
  rcases ho.2 with ⟨he, h0⟩ | ⟨g, cap, cur, hv, hb, hg, _⟩
  · omega
  · injection hv with h1 h2 h3
    subst h1
    have hlt : g < w.heap.size := by
      rcases Nat.lt_or_ge g w.heap.size with h | h
      · exact h
      · rw [Array.getElem?_eq_none h] at hg; cases hg
    refine ⟨g, 0, rfl, hlt, ?_⟩
    rw [Nat.zero_add, ho.cellAt i (by omega)]
    simp [List.getElem?_eq_getElem hi]

theorem Own.kept {w w' : World} {base B : Nat} {A : Option Addr} {n c : Nat} {l : List Int} (h : Own w base A n c l) (hb : Below B w w') (hB : w.heap.size ≤ B) : Own w' base A n c l := by
  refine ⟨h.1, h.2.1, Nat.le_trans h.2.2.1 hb.size, h.2.2.2.1, ?_⟩
  rcases h.2.2.2.2 with h1 | ⟨g, cap, cur, h1, h2, h3, h4⟩
  · exact .inl h1
  · refine .inr ⟨g, cap, cur, h1, h2, ?_, h4⟩
    have hlt : g < w.heap.size := by
      rcases Nat.lt_or_ge g w.heap.size with h | h
      · exact h
      · rw [Array.getElem?_eq_none h] at h3; cases h3
    rw [hb.block g (by omega)]; exact h3

theorem Own.drew {w : World} {base : Nat} {A : Option Addr} {n c : Nat} {l : List Int} (h : Own w base A n c l) : Own w.drew base A n c l := h

theorem Own.far {w : World} {base : Nat} {A : Option Addr} {n c : Nat} {l : List Int} (h : Own w base A n c l) {a : Addr} (ha : a.block < base) (u : Value) : Own (w.setCell a u) base A n c l :=
  ⟨h.1, h.2.1, by simpa using h.2.2.1, ownsRow_setCell_below h.2.2.2 ha u⟩
theorem Own.alloc {w : World} {base : Nat} {A : Option Addr} {n c : Nat} {l : List Int} (h : Own w base A n c l) (o : Obj) : Own (w.alloc o) base A n c l := h.kept ((Below.refl _ _).alloc (Nat.le_refl _) o) (Nat.le_refl _)

theorem ones (l : List Int) : ∀ u ∈ l.map (Value.int .u8), u.oneCell' = true := by
  intro v hv; obtain ⟨x, _, rfl⟩ := List.mem_map.1 hv; rfl

theorem below_grown {w w' : World} {base : Nat} {row : Option Nat} (hg : w.grownBy w' row) (hb : base ≤ w.heap.size) (hr : ∀ k, row = some k → base ≤ k) : Below base w w' :=
  (Below.refl base w).grown hg hb hr

theorem run_append_bytes (w : World) (ty : TypeId) (base : Nat) (A : Option Addr) (n c : Nat) (l : List Int) (ho : Own w base A n c l) (A2 : Option Addr) (m c2 : Nat) (ys : List Int) (hb : Bytes w A2 ys) (hm : ys.length = m) (hsz : n + m ≤ 70368744177664) :
    ∃ A' c' w', (Builtin.append_ #[25, 25] ty #[.slice A n c, .slice A2 m c2]).run Tryz.prog w = .ok (.slice A' (n + m) c') w' ∧ Own w' base A' (n + m) c' (l ++ ys) ∧ Below base w w' := by
  obtain ⟨i, hi, hzz⟩ := Option.map_eq_some_iff.1 info8
  simp only [Prod.mk.injEq] at hzz
  obtain ⟨hz, hs, hby⟩ := hzz
  have hown := ho.2.2.2
  have done : ∀ (v' : Value) (w' : World), w'.ownsRow base 5 1 v' (n + m) (l.map (Value.int .u8) ++ ys.map (Value.int .u8)) → w.grownBy w' (Value.slice A n c).ownBlock →
      ∃ A' c', v' = .slice A' (n + m) c' ∧ Own w' base A' (n + m) c' (l ++ ys) ∧ Below base w w' := by
    intro v' w' h2 h3
    have hbel := below_grown h3 ho.2.2.1 (fun k hk => (ho.lt k hk).1)
    have hL : (l ++ ys).length = n + m := by rw [List.length_append, ho.2.1, hm]
    rw [← List.map_append] at h2
    rcases h2.2 with ⟨rfl, h0⟩ | ⟨g, cap, cur, rfl, _⟩
    · rw [h0] at h2 hL ⊢
      exact ⟨none, 0, rfl, ⟨ho.1.app hb.1, hL, Nat.le_trans ho.2.2.1 hbel.size, h2⟩, hbel⟩
    · exact ⟨_, _, rfl, ⟨ho.1.app hb.1, hL, Nat.le_trans ho.2.2.1 hbel.size, h2⟩, hbel⟩
  have hlen : (ys.map (Value.int .u8)).length = m * 1 := by simp [hm]
  by_cases h0 : 0 < ys.length
  · obtain ⟨ad, rfl, hsrc⟩ := hb.source w (Below.refl _ _) h0
    obtain ⟨v', w', hr, h2, h3, _⟩ := run_append_own (P := Tryz.prog) w base 25 ty 5 i (.int .u8 0) 1 1 Tryz.underlying25 hi hz hs hby rfl (by decide) _ n _ hown ad m c2 (ys.map (Value.int .u8)) hlen
      (fun j u hu => by
        rw [List.getElem?_map] at hu
        obtain ⟨x, hx, rfl⟩ := Option.map_eq_some_iff.1 hu
        exact hsrc j x hx) (ones ys) (by unfold maxLen; omega) (by omega) ho.2.2.1
    obtain ⟨A', c', rfl, h4, h5⟩ := done v' w' h2 h3
    exact ⟨A', c', w', hr, h4, h5⟩
  · obtain rfl : ys = [] := List.eq_nil_of_length_eq_zero (by omega)
    obtain rfl : m = 0 := by simpa using hm.symm
    cases A2 with
    | some ad =>
      obtain ⟨v', w', hr, h2, h3, _⟩ := run_append_own (P := Tryz.prog) w base 25 ty 5 i (.int .u8 0) 1 1 Tryz.underlying25 hi hz hs hby rfl (by decide) _ n _ hown ad 0 c2 [] rfl
        (fun j u hu => by simp at hu) (fun u hu => by cases hu) (by unfold maxLen; omega) (by omega) ho.2.2.1
      obtain ⟨A', c', rfl, h4, h5⟩ := done v' w' h2 h3
      exact ⟨A', c', w', hr, h4, h5⟩
    | none =>
      refine ⟨A, c, w, ?_, ?_, Below.refl _ _⟩
      · rcases hown.2 with ⟨he, h0'⟩ | ⟨g, cap, cur, he, _, _, hnc, _⟩
        · injection he with e1 e2 e3
          subst e1; subst e2; subst e3
          simp [Builtin.append_, run_underlying Tryz.underlying25, sizeOf, typeInfo, hi, Builtin.lenOf, Builtin.firstCells]
        · injection he with e1 e2 e3
          subst e1; subst e3
          simp [Builtin.append_, run_underlying Tryz.underlying25, sizeOf, typeInfo, hi, Builtin.lenOf, Builtin.firstCells, hnc, storeCells]
      · rw [Nat.add_zero, List.append_nil]; exact ho

theorem wp_append_bytes {w : World} {o : Oper} {a : Act} {K : Act → World → Prop} {Q : Exit → Act → World → Prop} (s x : Operand)
    (hop : o.op = .call { callee := .builtin .append, args := #[s, x], argTypes := #[25, 25] })
    (base : Nat) (A : Option Addr) (n c : Nat) (l : List Int) (hs : a.eval s = .slice A n c) (ho : Own w base A n c l) (A2 : Option Addr) (m c2 : Nat) (ys : List Int) (hx : a.eval x = .slice A2 m c2) (hb : Bytes w A2 ys) (hm : ys.length = m) (hsz : n + m ≤ 70368744177664)
    (h : ∀ A' c' w', Own w' base A' (n + m) c' (l ++ ys) → Below base w w' → K (a.put o.dst (.slice A' (n + m) c')) w') : o.wp Tryz.prog a w K Q := by
  obtain ⟨A', c', w', hr, h1, h2⟩ := run_append_bytes w o.type base A n c l ho A2 m c2 ys hb hm hsz
  unfold Oper.wp execOp
  simp only [hop, resolve, invoke, builtin, Sem.run_bind, Sem.run_pure, Result.andThen_ok, List.map_toArray, List.map_cons, List.map_nil, hs, hx, hr]
  exact h A' c' w' h1 h2

theorem wpList_append_bytes {w : World} {ops : Array Oper} {rest : List Oper} {o : Oper} {a : Act} {Q : Exit → Act → World → Prop} (hgd : o.guard = none) (s x : Operand)
    (hop : o.op = .call { callee := .builtin .append, args := #[s, x], argTypes := #[25, 25] })
    (base : Nat) (A : Option Addr) (n c : Nat) (l : List Int) (hs : a.eval s = .slice A n c) (ho : Own w base A n c l) (A2 : Option Addr) (m c2 : Nat) (ys : List Int) (hx : a.eval x = .slice A2 m c2) (hb : Bytes w A2 ys) (hm : ys.length = m) (hsz : n + m ≤ 70368744177664)
    (h : ∀ A' c' w', Own w' base A' (n + m) c' (l ++ ys) → Below base w w' → wpList Tryz.prog ops Q rest (a.put o.dst (.slice A' (n + m) c')) w') : wpList Tryz.prog ops Q (o :: rest) a w :=
  wpList_plain hgd fun _ hK => wp_append_bytes s x hop base A n c l hs ho A2 m c2 ys hx hb hm hsz fun A' c' w' h1 h2 => hK _ _ (h A' c' w' h1 h2)


theorem step_append_bytes {w : World} {ops : Array Oper} {o : Oper} {a : Act} {K : Act → World → Prop} {Q : Exit → Act → World → Prop} {E : Prop} (hgd : o.guard = none) (s x : Operand)
    (hop : o.op = .call { callee := .builtin .append, args := #[s, x], argTypes := #[25, 25] })
    (base : Nat) (A : Option Addr) (n c : Nat) (l : List Int) (hs : a.eval s = .slice A n c) (ho : Own w base A n c l) (A2 : Option Addr) (m c2 : Nat) (ys : List Int) (hx : a.eval x = .slice A2 m c2) (hb : Bytes w A2 ys) (hm : ys.length = m) (hsz : n + m ≤ 70368744177664)
    (h : ∀ A' c' w', Own w' base A' (n + m) c' (l ++ ys) → Below base w w' → K (a.put o.dst (.slice A' (n + m) c')) w') :
    if Region.wanted o (yielded ops a.tmps) = true then Oper.wp Tryz.prog o a w K Q else E := by
  have hw : Region.wanted o (yielded ops a.tmps) = true := by simp [Region.wanted, hgd]
  rw [if_pos hw]
  exact wp_append_bytes s x hop base A n c l hs ho A2 m c2 ys hx hb hm hsz h
end Go.Proofs.YtldkmobncmfodaaGreat.Own8

/-
  Words for a block of memory that is known whole, whatever its cells; and small words on what became of the world.
-/
namespace Go.Proofs.YtldkmobncmfodaaGreat.Blk8
open Go.ChangeShapes Go.WideShapes Go.ChangeAt Go.RowKit
open Bytes8
set_option linter.unusedVariables false
set_option maxRecDepth 100000

/-- A block is just these cells. -/
def Blk (w : World) (g : Nat) (vs : List Value) (T : TypeId) : Prop := w.heap[g]? = some (.cells vs.toArray T (0, 0))
theorem Blk.lt {w : World} {g : Nat} {vs : List Value} {T : TypeId} (h : Blk w g vs T) : g < w.heap.size := by
  rcases Nat.lt_or_ge g w.heap.size with hlt | hge
  · exact hlt
  · unfold Blk at h; rw [Array.getElem?_eq_none hge] at h; cases h
theorem Blk.cell {w : World} {g : Nat} {vs : List Value} {T : TypeId} (h : Blk w g vs T) {i : Nat} {v : Value} (hi : vs[i]? = some v) : w.cell? ⟨g, i, none⟩ = some v := by
  unfold Blk at h
  simp [World.cell?, h, hi]
theorem Blk.frozen {w : World} {g : Nat} {vs : List Value} {T : TypeId} (h : Blk w g vs T) (i : Nat) : w.frozen? ⟨g, i, none⟩ = false := by
  unfold Blk at h
  simp [World.frozen?, h]
theorem Blk.new (w : World) (vs : List Value) (T : TypeId) : Blk (w.alloc (.cells vs.toArray T)) w.heap.size vs T := heap_alloc_new w _
theorem Blk.new_at (w : World) (vs : List Value) (T : TypeId) (g : Nat) (h : w.heap.size = g) : Blk (w.alloc (.cells vs.toArray T)) g vs T := h ▸ Blk.new w vs T
theorem Blk.below {w w' : World} {B g : Nat} {vs : List Value} {T : TypeId} (h : Blk w g vs T) (hb : Below B w w') (hg : g < B) : Blk w' g vs T := (hb.block g hg).trans h
theorem Blk.set_ {w : World} {g : Nat} {vs : List Value} {T : TypeId} (h : Blk w g vs T) (i : Nat) (v : Value) : Blk (w.setCell ⟨g, i, none⟩ v) g (vs.set i v) T := by
  unfold Blk at h ⊢
  simp [World.setCell, Array.getElem?_modify, h]
theorem Blk.far {w : World} {g : Nat} {vs : List Value} {T : TypeId} (h : Blk w g vs T) {p : Addr} (hp : g ≠ p.block) (u : Value) : Blk (w.setCell p u) g vs T := (Below.heap_setCell w p u g hp).trans h
theorem Blk.alloc {w : World} {g : Nat} {vs : List Value} {T : TypeId} (h : Blk w g vs T) (o : Obj) : Blk (w.alloc o) g vs T := (Below.heap_alloc w o g h.lt).trans h
theorem Blk.bytes {w : World} {g : Nat} {l : List Int} {T : TypeId} (h : Blk w g (l.map (Value.int .u8)) T) (hA : AllB l) : Bytes w (some ⟨g, 0, none⟩) l :=
  ⟨hA, fun i hi => ⟨g, 0, rfl, h.lt, by rw [Nat.zero_add]; exact h.cell (by simp [List.getElem?_eq_getElem hi])⟩⟩


theorem below_drewN {B : Nat} {a w : World} (h : Below B a w) (n : Nat) : Below B a (w.drewN n) := ⟨h.os, h.tape, h.output, h.size, h.block⟩
theorem Blk.drew {w : World} {g : Nat} {vs : List Value} {T : TypeId} (h : Blk w g vs T) : Blk w.drew g vs T := h
theorem Blk.drewN {w : World} {g : Nat} {vs : List Value} {T : TypeId} (h : Blk w g vs T) (n : Nat) : Blk (w.drewN n) g vs T := h
/-- A callee that leaves the world as it was, inside a region that draws. -/
theorem quiet_kept {P : Program} {f : FuncId} {args : Array Value} {w : World} {n : Nat} {v : Value}
    (h : Calls P f args (w.drewN n) fun e w' => e = .returned v ∧ w.drewN n = w') : Calls P f args (w.drewN n) fun e w' => e = .returned v ∧ ∃ m, w' = w.drewN m :=
  h.mono fun _ _ hh => ⟨hh.1, n, hh.2.symm⟩

/-! ## what comes in -/
/-- WHAT THE WALK IS TOLD OF A SLICE OF INTEGERS THAT CAME IN, as the guide's shell hands it. -/
def IsRow (k : IntKind) (w : World) (a : Option Addr) (len cap : Nat) (zs : List Int) : Prop :=
  (a = none ∧ len = 0 ∧ cap = 0 ∧ zs = []) ∨
  ∃ x, a = some x ∧ len ≤ cap ∧ cap ≤ maxLen ∧ zs.length = cap ∧ (∀ i, i < zs.length → w.cell? (x.add i) = some (.int k (zs.getD i 0))) ∧ ∀ n ∈ zs, (Lit.int k n).wf = true

theorem bounds_of_cell {w : World} {p : Addr} {v : Value} (h : w.cell? p = some v) : p.block < w.heap.size := by
  rcases Nat.lt_or_ge p.block w.heap.size with hlt | hge
  · exact hlt
  · simp [World.cell?, Array.getElem?_eq_none hge] at h

theorem IsRow.bytes {w : World} {a : Option Addr} {len cap : Nat} {zs : List Int} (h : IsRow .u8 w a len cap zs) :
    Bytes w a (zs.take len) ∧ (zs.take len).length = len ∧ len ≤ cap ∧ cap ≤ maxLen ∧ (a = none → cap = 0) := by
  rcases h with ⟨rfl, rfl, rfl, rfl⟩ | ⟨x, rfl, hl, hm, hz, hcell, hwz⟩
  · exact ⟨Bytes.nil _ _, rfl, Nat.le_refl _, by decide, fun _ => rfl⟩
  · have hlen : (zs.take len).length = len := by simp; omega
    have hAll : AllB zs := fun n hn => by
      have := bounds_u8 (hwz n hn)
      omega
    refine ⟨⟨hAll.take len, fun i hi => ?_⟩, hlen, hl, hm, fun h => by cases h⟩
    rw [hlen] at hi
    have hc := hcell i (by omega)
    obtain ⟨b, off, spot⟩ := x
    have hspot : spot = none := by
      have h0 := hcell 0 (by omega)
      simpa [Addr.add] using World.cell?_spot h0
    subst hspot
    have hb := bounds_of_cell hc
    have e : (⟨b, off, none⟩ : Addr).add i = ⟨b, off + i, none⟩ := by
      unfold Addr.add
      split <;> simp_all
    rw [e] at hc hb
    refine ⟨b, off, rfl, hb, ?_⟩
    rw [hc]
    simp [hi]

theorem row_of_trod {H : Type} {enc : TypeId × Value → H} {P : Program} {w : World} {base : Nat} {held : Bool} {t e : TypeId} {k : IntKind} {a : Option Addr} {len cap : Nat} {d : DataW H} {p : List MemPlace} (ht : P.underlying t = some (.slice e)) (he : P.underlying e = some (.int k)) (hc : P.cellsOf e = 1)
    (h : DataW.Trod enc P w base (fun _ => true) held t (.slice a len cap) d p) : ∃ zs, IsRow k w a len cap zs := by
  obtain ⟨fuel, hf⟩ := h
  rcases open_ints ht he hc hf with ⟨hcs, _⟩ | ⟨x, l, c, zs, hcs, _, hl, hm, hz, _, hcell, hwz⟩
  · simp [Value.cells] at hcs
    obtain ⟨rfl, rfl, rfl⟩ := hcs
    exact ⟨[], .inl ⟨rfl, rfl, rfl, rfl⟩⟩
  · simp [Value.cells] at hcs
    obtain ⟨rfl, rfl, rfl⟩ := hcs
    exact ⟨zs, .inr ⟨_, rfl, hl, hm, by simpa using hz, hcell, hwz⟩⟩


/-! ## sixteen bytes by value -/
def idL (K : Nat → Int) : List Int := [K 0, K 1, K 2, K 3, K 4, K 5, K 6, K 7, K 8, K 9, K 10, K 11, K 12, K 13, K 14, K 15]
abbrev idV (K : Nat → Int) : Value := .agg #[.int .u8 (K 0), .int .u8 (K 1), .int .u8 (K 2), .int .u8 (K 3), .int .u8 (K 4), .int .u8 (K 5), .int .u8 (K 6), .int .u8 (K 7), .int .u8 (K 8), .int .u8 (K 9), .int .u8 (K 10), .int .u8 (K 11), .int .u8 (K 12), .int .u8 (K 13), .int .u8 (K 14), .int .u8 (K 15)]
abbrev idC (T : TypeId) (K : Nat → Int) : Obj := .cells #[.int .u8 (K 0), .int .u8 (K 1), .int .u8 (K 2), .int .u8 (K 3), .int .u8 (K 4), .int .u8 (K 5), .int .u8 (K 6), .int .u8 (K 7), .int .u8 (K 8), .int .u8 (K 9), .int .u8 (K 10), .int .u8 (K 11), .int .u8 (K 12), .int .u8 (K 13), .int .u8 (K 14), .int .u8 (K 15)] T
def IdOk (K : Nat → Int) : Prop := ∀ i, 0 ≤ K i ∧ K i < 256
theorem idL_all {K : Nat → Int} (h : IdOk K) : AllB (idL K) := fun n hn => by
  simp only [idL, List.mem_cons, List.not_mem_nil, or_false] at hn
  rcases hn with h1 | h1 | h1 | h1 | h1 | h1 | h1 | h1 | h1 | h1 | h1 | h1 | h1 | h1 | h1 | h1 <;> (rw [h1]; exact h _)
theorem id_boxed (T : TypeId) (K : Nat → Int) (h : IdOk K) (w : World) : Bytes (w.alloc (idC T K)) (some ⟨w.heap.size, 0, none⟩) (idL K) := (Blk.new w ((idL K).map (Value.int .u8)) T).bytes (idL_all h)

end Go.Proofs.YtldkmobncmfodaaGreat.Blk8

/-
  What a call leaves that writes one block of those that were there.
-/
namespace Go.Proofs.YtldkmobncmfodaaGreat.Seq8
open Go.ChangeShapes Go.WideShapes Go.ChangeAt Go.RowKit
open Bytes8 Blk8
set_option linter.unusedVariables false
set_option maxRecDepth 100000
set_option linter.unusedSimpArgs false

/-- Blocks below B, but g, are as they were. -/
structure KeptB (B g : Nat) (w w' : World) : Prop where
  os : w'.os = w.os
  tape : w'.tape = w.tape
  output : w'.output = w.output
  size : w.heap.size ≤ w'.heap.size
  block : ∀ k, k < B → k ≠ g → w'.heap[k]? = w.heap[k]?
theorem KeptB.of_below {B g : Nat} {w w' : World} (h : Below B w w') : KeptB B g w w' := ⟨h.os, h.tape, h.output, h.size, fun k hk _ => h.block k hk⟩
theorem KeptB.refl (B g : Nat) (w : World) : KeptB B g w w := KeptB.of_below (Below.refl B w)
theorem KeptB.trans {B g : Nat} {a b c : World} (h : KeptB B g a b) (k : KeptB B g b c) : KeptB B g a c :=
  ⟨k.os.trans h.os, k.tape.trans h.tape, k.output.trans h.output, Nat.le_trans h.size k.size, fun i hi hg => (k.block i hi hg).trans (h.block i hi hg)⟩
theorem KeptB.mono {B B' g : Nat} {w w' : World} (h : KeptB B g w w') (hB : B' ≤ B) : KeptB B' g w w' := ⟨h.os, h.tape, h.output, h.size, fun k hk hg => h.block k (Nat.lt_of_lt_of_le hk hB) hg⟩
theorem KeptB.below {B g : Nat} {w w' : World} (h : KeptB B g w w') (hg : B ≤ g) : Below B w w' := ⟨h.os, h.tape, h.output, h.size, fun k hk => h.block k hk (by omega)⟩
theorem KeptB.drewN {B g : Nat} {a w : World} (h : KeptB B g a w) (n : Nat) : KeptB B g a (w.drewN n) := ⟨h.os, h.tape, h.output, h.size, h.block⟩
theorem KeptB.drew {B g : Nat} {a w : World} (h : KeptB B g a w) : KeptB B g a w.drew := ⟨h.os, h.tape, h.output, h.size, h.block⟩
theorem KeptB.alloc {B g : Nat} {a w : World} (h : KeptB B g a w) (hB : B ≤ w.heap.size) (o : Obj) : KeptB B g a (w.alloc o) := h.trans (KeptB.of_below ((Below.refl B w).alloc hB o))
theorem KeptB.setCell {B g : Nat} {a w : World} (h : KeptB B g a w) {p : Addr} (hp : B ≤ p.block ∨ p.block = g) (u : Value) : KeptB B g a (w.setCell p u) :=
  h.trans ⟨rfl, rfl, rfl, by simp [World.setCell], fun k hk hg => Below.heap_setCell _ _ _ _ (by rcases hp with h | h <;> omega)⟩
theorem Blk.keptB {w w' : World} {B g k : Nat} {vs : List Value} {T : TypeId} (h : Blk w k vs T) (hk : KeptB B g w w') (h1 : k < B) (h2 : k ≠ g) : Blk w' k vs T := (hk.block k h1 h2).trans h
end Go.Proofs.YtldkmobncmfodaaGreat.Seq8

/-
  What the small functions under the statements of layer 1 answer: the widths, the place test. No condition.
-/
namespace Go.Proofs.YtldkmobncmfodaaGreat.LeA
open Go.ChangeShapes Go.WideShapes Go.ChangeAt Go.RowKit
set_option linter.unusedVariables false
set_option maxRecDepth 100000

open Bytes8 Blk8

def isW (n : Int) : Bool := n == 1 || n == 2 || n == 4 || n == 8

theorem isWidth_any (n : Int) (w : World) :
    Calls Tryz.prog 218 #[.int .i64 n] w fun e w' => e = .returned (.bool (isW n)) ∧ w = w' := by
  by_cases h1 : n = 1
  · subst h1
    go_enter Tryz.func218, Tryz.ntmps218
    go_wp2
    go_ret
    exact ⟨rfl, rfl⟩
  by_cases h2 : n = 2
  · subst h2
    go_enter Tryz.func218, Tryz.ntmps218
    go_wp2
    go_ret
    exact ⟨rfl, rfl⟩
  by_cases h4 : n = 4
  · subst h4
    go_enter Tryz.func218, Tryz.ntmps218
    go_wp2
    go_ret
    exact ⟨rfl, rfl⟩
  by_cases h8 : n = 8
  · subst h8
    go_enter Tryz.func218, Tryz.ntmps218
    go_wp2
    go_ret
    exact ⟨rfl, rfl⟩
  · go_enter Tryz.func218, Tryz.ntmps218
    go_wp2
    go_ret
    exact ⟨rfl, rfl⟩

/-- THE PLACE TEST: a number of n bytes at the place at lies in so many bytes. -/
def fits (len : Nat) (at1 n : Int) : Bool := isW n && decide (0 ≤ at1) && decide (at1 ≤ len - n)

theorem within_any (a : Option Addr) (len cap : Nat) (at1 n : Int) (w : World) (hl : len ≤ 9223372036854775807) :
    Calls Tryz.prog 213 #[.slice a len cap, .int .i64 at1, .int .i64 n] w fun e w' => e = .returned (.bool (fits len at1 n)) ∧ w = w' := by
  cases hw : isW n with
  | false =>
    go_enter Tryz.func213, Tryz.ntmps213
    go_wp2_with (go_at_call 218; refine (isWidth_any _ _).mono ?_; rintro e w' ⟨rfl, rfl⟩)
    go_ret
    exact ⟨by simp [fits, hw], rfl⟩
  | true =>
    have hn : 1 ≤ n ∧ n ≤ 8 := by simp [isW] at hw; omega
    obtain ⟨hn1, hn8⟩ := hn
    by_cases h0 : 0 ≤ at1
    · go_enter Tryz.func213, Tryz.ntmps213
      go_wp2_with (go_at_call 218; refine (isWidth_any _ _).mono ?_; rintro e w' ⟨rfl, rfl⟩)
      go_ret
      exact ⟨by simp [fits, hw, h0], rfl⟩
    · go_enter Tryz.func213, Tryz.ntmps213
      go_wp2_with (go_at_call 218; refine (isWidth_any _ _).mono ?_; rintro e w' ⟨rfl, rfl⟩)
      go_ret
      exact ⟨by simp [fits, hw]; omega, rfl⟩
end Go.Proofs.YtldkmobncmfodaaGreat.LeA

/-
  Texts as lists of numbers, plain.
-/
namespace Go.Proofs.YtldkmobncmfodaaGreat.Fa
open Go.ChangeShapes Go.WideShapes Go.ChangeAt Go.RowKit
open Bytes8 Blk8
set_option linter.unusedVariables false
set_option maxRecDepth 100000
set_option linter.unusedSimpArgs false

/-! ## texts as lists of numbers -/
abbrev T (l : List Int) : ByteArray := strOfNums l
def num (s : ByteArray) : List Int := s.toList.map fun c => (c.toNat : Int)
theorem T_toList (l : List Int) : (T l).toList = l.map fun n => n.toNat.toUInt8 := by
  show (strOfNums l).toList = _
  unfold strOfNums
  rw [ByteArray.toList_eq]
theorem num_len (s : ByteArray) : (num s).length = s.size := by
  unfold num; rw [List.length_map, ByteArray.toList_eq]; cases s; rfl
theorem T_size (l : List Int) : (T l).size = l.length := by
  have h := num_len (T l)
  rw [← h]; unfold num; rw [List.length_map, T_toList, List.length_map]
theorem num_T {l : List Int} (h : AllB l) : num (T l) = l := by
  unfold num; rw [T_toList, List.map_map]
  conv => rhs; rw [← List.map_id l]
  refine List.map_congr_left fun n hn => ?_
  have := h n hn
  simp
  omega
theorem T_app (l m : List Int) : T l ++ T m = T (l ++ m) := by
  apply ByteArray.ext
  rw [ByteArray.data_append]
  apply Array.toList_inj.1
  have e := T_toList l; have f := T_toList m; have g := T_toList (l ++ m)
  rw [ByteArray.toList_eq] at e f g
  rw [Array.toList_append, e, f, g, List.map_append]
theorem T_one : ({ data := #[61] } : ByteArray) = T [61] := by decide
theorem T_nil : ({ data := #[] } : ByteArray) = T [] := by decide
theorem T_cut (l : List Int) (a b : Nat) : (T l).extract a b = T ((l.drop a).take (b - a)) := by
  apply ByteArray.ext
  apply Array.toList_inj.1
  have e := T_toList l; have g := T_toList ((l.drop a).take (b - a))
  rw [ByteArray.toList_eq] at e g
  rw [g, ByteArray.data_extract, Array.toList_extract, e]
  simp [List.extract, List.map_take, List.map_drop]
theorem T_beq {l m : List Int} (hl : AllB l) (hm : AllB m) : ((T l).toList == (T m).toList) = decide (l = m) := by
  by_cases h : l = m
  · subst h; simp
  · have : (T l).toList ≠ (T m).toList := fun e => h (by
      rw [← num_T hl, ← num_T hm]; unfold num; rw [e])
    simp [h, this]
/-- A byte of a text. -/
theorem index_at (l : List Int) (h : AllB l) (i : Nat) (hi : i < l.length) (w : World) :
    (Instr.index 9 (.string (T l)) (.int .i64 (i : Int))).run Tryz.prog w = .ok (.int .u8 (l.getD i 0)) w := by
  rw [run_index_string w _ _ _ _ Tryz.underlying9]
  have hs : (i : Int) < ((T l).size : Int) := by rw [T_size]; omega
  have hsz : i < (T l).size := by rw [T_size]; exact hi
  have hlen : i < (T l).toList.length := by rw [T_toList, List.length_map]; exact hi
  rw [dif_pos ⟨by omega, hs⟩]
  have e1 : ((T l)[(i : Int).toNat]'(by simpa using hsz)) = (T l).toList[i]'hlen := by
    have : (T l).toList = (T l).data.toList := ByteArray.toList_eq _
    simp only [this]
    rfl
  rw [e1]
  have e2 : (T l).toList[i]'hlen = (l[i]).toNat.toUInt8 := by
    simp only [T_toList, List.getElem_map]
  rw [e2]
  have hv := h l[i] (List.getElem_mem hi)
  have e3 : l.getD i 0 = l[i] := by simp [List.getElem?_eq_getElem hi]
  rw [e3]
  have e4 : (((l[i]).toNat.toUInt8.toNat : Nat) : Int) = l[i] := by simp; omega
  rw [e4]
end Go.Proofs.YtldkmobncmfodaaGreat.Fa
