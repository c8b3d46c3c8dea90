/-
  Texts beneath the proof, one behind the other.
-/
import Derived.Laws.Slices
import Derived.BigQuiet
import Derived.Maps.AppendAt
import Derived.Sort.Grow
import Derived.Laws.IdiomStrings
import Derived.Test.YtpfkhcgeblihcaaQa1

/-
  Words for a slice of whatever elements that a call gathers by append; and for a part of a slice, cut by 's[lo:hi]'.
-/
namespace Go.Proofs.Ytpfkhcgeblihcaa.OwnE
open Go.ChangeShapes Go.WideShapes Go.ChangeAt Go.RowKit
open Bytes8 Blk8 Own8
set_option linter.unusedVariables false
set_option maxRecDepth 100000

/-- What is to be known of an element's type E and of its slice's type S. -/
structure Elt (E S : TypeId) (size bytes : Nat) (z : Value) : Prop where
  under : Try.prog.underlying S = some (.slice E)
  info : (Try.prog.info? E).map (fun i => (i.zero, i.size, i.bytes)) = some (some z, size, bytes)
  zero : z.cells.size = size
  pos : 0 < size

/-- The slice value '.slice A n c' is the call's own: its cells are xs, in a block from base on, or it is nil. -/
def OwnE (E : TypeId) (size : Nat) (w : World) (base : Nat) (A : Option Addr) (n c : Nat) (xs : List Value) : Prop :=
  base ≤ w.heap.size ∧ w.ownsRow base E size (.slice A n c) n xs

variable {E : TypeId} {size : Nat}
theorem OwnE.nil (w : World) (base : Nat) (h : base ≤ w.heap.size) : OwnE E size w base none 0 0 [] := ⟨h, World.ownsRow_nil _ _ _ _⟩
theorem OwnE.len {w : World} {base : Nat} {A : Option Addr} {n c : Nat} {xs : List Value} (h : OwnE E size w base A n c xs) : xs.length = n * size := h.2.1
theorem OwnE.lt {w : World} {base : Nat} {A : Option Addr} {n c : Nat} {xs : List Value} (h : OwnE E size w base A n c xs) : ∀ k, (Value.slice A n c).ownBlock = some k → base ≤ k ∧ k < w.heap.size := h.2.lt
theorem OwnE.kept {w w' : World} {base B : Nat} {A : Option Addr} {n c : Nat} {xs : List Value} (h : OwnE E size w base A n c xs) (hb : Below B w w') (hB : w.heap.size ≤ B) : OwnE E size w' base A n c xs := by
  refine ⟨Nat.le_trans h.1 hb.size, h.2.1, ?_⟩
  rcases h.2.2 with h1 | ⟨g, cap, cur, h1, h2, h3, h4⟩
  · exact .inl h1
  · refine .inr ⟨g, cap, cur, h1, h2, ?_, h4⟩
    have hlt : g < w.heap.size := by
      rcases Nat.lt_or_ge g w.heap.size with h | h
      · exact h
      · rw [Array.getElem?_eq_none h] at h3; cases h3
    rw [hb.block g (by omega)]; exact h3
theorem OwnE.alloc {w : World} {base : Nat} {A : Option Addr} {n c : Nat} {xs : List Value} (h : OwnE E size w base A n c xs) (o : Obj) : OwnE E size (w.alloc o) base A n c xs := h.kept ((Below.refl _ _).alloc (Nat.le_refl _) o) (Nat.le_refl _)
theorem OwnE.drew {w : World} {base : Nat} {A : Option Addr} {n c : Nat} {xs : List Value} (h : OwnE E size w base A n c xs) : OwnE E size w.drew base A n c xs := h
/-- A cell of it. -/
theorem OwnE.cell {w : World} {base : Nat} {A : Option Addr} {n c : Nat} {xs : List Value} (h : OwnE E size w base A n c xs) {i : Nat} (hi : i < xs.length) :
    ∃ g, A = some ⟨g, 0, none⟩ ∧ base ≤ g ∧ g < w.heap.size ∧ w.cell? ⟨g, i, none⟩ = xs[i]? := by
  obtain ⟨hb, ho⟩ := h
  rcases ho.2 with ⟨he, h0⟩ | ⟨g, cap, cur, hv, hbg, hg, _⟩
  · have := ho.1; subst h0; rw [Nat.zero_mul] at this; omega
  · injection hv with h1 h2 h3
    subst h1
    have hlt : g < w.heap.size := by
      rcases Nat.lt_or_ge g w.heap.size with h | h
      · exact h
      · rw [Array.getElem?_eq_none h] at hg; cases hg
    refine ⟨g, rfl, hbg, hlt, ?_⟩
    have := ho.cells (g := g) rfl i xs[i] (List.getElem?_eq_getElem hi)
    rw [add_none, Nat.zero_add] at this
    rw [this, List.getElem?_eq_getElem hi]

theorem run_append_elt {S : TypeId} {bytes : Nat} {z : Value} (he : Elt E S size bytes z) (w : World) (ty : TypeId) (base : Nat) (A : Option Addr) (n c : Nat) (xs : List Value) (ho : OwnE E size w base A n c xs) (ad : Addr) (m c2 : Nat) (news : List Value) (hl : news.length = m * size)
    (hnews : ∀ j u, news[j]? = some u → w.cell? (ad.add j) = some u) (h1 : ∀ u ∈ news, u.oneCell' = true) (h63 : n + m ≤ 4611686018427387904) (hbytes : (n + m) * bytes ≤ 140737488355328) :
    ∃ A' c' w', (Builtin.append_ #[S, S] ty #[.slice A n c, .slice (some ad) m c2]).run Try.prog w = .ok (.slice A' (n + m) c') w' ∧ OwnE E size w' base A' (n + m) c' (xs ++ news) ∧ Below base w w' := by
  obtain ⟨i, hi, hzz⟩ := Option.map_eq_some_iff.1 he.info
  simp only [Prod.mk.injEq] at hzz
  obtain ⟨hz, hs, hby⟩ := hzz
  obtain ⟨v', w', hr, h2, h3, _⟩ := run_append_own (P := Try.prog) w base S ty E i z size bytes he.under hi hz hs hby he.zero he.pos _ n xs ho.2 ad m c2 news hl hnews h1 (by unfold maxLen; omega) hbytes ho.1
  have hbel := below_grown h3 ho.1 (fun k hk => (ho.lt k hk).1)
  rcases h2.2 with ⟨rfl, h0⟩ | ⟨g, cap, cur, rfl, _⟩
  · rw [h0] at h2 ⊢
    exact ⟨none, 0, w', hr, ⟨Nat.le_trans ho.1 hbel.size, h2⟩, hbel⟩
  · exact ⟨_, _, w', hr, ⟨Nat.le_trans ho.1 hbel.size, h2⟩, hbel⟩

theorem wp_append_elt {S : TypeId} {bytes : Nat} {z : Value} (he : Elt E S size bytes z) {w : World} {o : Oper} {a : Act} {K : Act → World → Prop} {Q : Exit → Act → World → Prop} (s x : Operand)
    (hop : o.op = .call { callee := .builtin .append, args := #[s, x], argTypes := #[S, S] })
    (base : Nat) (A : Option Addr) (n c : Nat) (xs : List Value) (hs : a.eval s = .slice A n c) (ho : OwnE E size w base A n c xs) (ad : Addr) (m c2 : Nat) (news : List Value) (hx : a.eval x = .slice (some ad) m c2) (hl : news.length = m * size)
    (hnews : ∀ j u, news[j]? = some u → w.cell? (ad.add j) = some u) (h1 : ∀ u ∈ news, u.oneCell' = true) (h63 : n + m ≤ 4611686018427387904) (hbytes : (n + m) * bytes ≤ 140737488355328)
    (h : ∀ A' c' w', OwnE E size w' base A' (n + m) c' (xs ++ news) → Below base w w' → K (a.put o.dst (.slice A' (n + m) c')) w') : o.wp Try.prog a w K Q := by
  obtain ⟨A', c', w', hr, h2, h3⟩ := run_append_elt he w o.type base A n c xs ho ad m c2 news hl hnews h1 h63 hbytes
  unfold Oper.wp execOp
  simp only [hop, resolve, invoke, builtin, Sem.run_bind, Sem.run_pure, Result.andThen_ok, List.map_toArray, List.map_cons, List.map_nil, hs, hx, hr]
  exact h A' c' w' h2 h3

theorem wpList_append_elt {S : TypeId} {bytes : Nat} {z : Value} (he : Elt E S size bytes z) {w : World} {ops : Array Oper} {rest : List Oper} {o : Oper} {a : Act} {Q : Exit → Act → World → Prop} (hgd : o.guard = none) (s x : Operand)
    (hop : o.op = .call { callee := .builtin .append, args := #[s, x], argTypes := #[S, S] })
    (base : Nat) (A : Option Addr) (n c : Nat) (xs : List Value) (hs : a.eval s = .slice A n c) (ho : OwnE E size w base A n c xs) (ad : Addr) (m c2 : Nat) (news : List Value) (hx : a.eval x = .slice (some ad) m c2) (hl : news.length = m * size)
    (hnews : ∀ j u, news[j]? = some u → w.cell? (ad.add j) = some u) (h1 : ∀ u ∈ news, u.oneCell' = true) (h63 : n + m ≤ 4611686018427387904) (hbytes : (n + m) * bytes ≤ 140737488355328)
    (h : ∀ A' c' w', OwnE E size w' base A' (n + m) c' (xs ++ news) → Below base w w' → wpList Try.prog ops Q rest (a.put o.dst (.slice A' (n + m) c')) w') : wpList Try.prog ops Q (o :: rest) a w :=
  wpList_plain hgd fun _ hK => wp_append_elt he s x hop base A n c xs hs ho ad m c2 news hx hl hnews h1 h63 hbytes fun A' c' w' h1 h2 => hK _ _ (h A' c' w' h1 h2)

theorem step_append_elt {S : TypeId} {bytes : Nat} {z : Value} (he : Elt E S size bytes z) {w : World} {ops : Array Oper} {o : Oper} {a : Act} {K : Act → World → Prop} {Q : Exit → Act → World → Prop} {F : Prop} (hgd : o.guard = none) (s x : Operand)
    (hop : o.op = .call { callee := .builtin .append, args := #[s, x], argTypes := #[S, S] })
    (base : Nat) (A : Option Addr) (n c : Nat) (xs : List Value) (hs : a.eval s = .slice A n c) (ho : OwnE E size w base A n c xs) (ad : Addr) (m c2 : Nat) (news : List Value) (hx : a.eval x = .slice (some ad) m c2) (hl : news.length = m * size)
    (hnews : ∀ j u, news[j]? = some u → w.cell? (ad.add j) = some u) (h1 : ∀ u ∈ news, u.oneCell' = true) (h63 : n + m ≤ 4611686018427387904) (hbytes : (n + m) * bytes ≤ 140737488355328)
    (h : ∀ A' c' w', OwnE E size w' base A' (n + m) c' (xs ++ news) → Below base w w' → K (a.put o.dst (.slice A' (n + m) c')) w') :
    if Region.wanted o (yielded ops a.tmps) = true then Oper.wp Try.prog o a w K Q else F := by
  have hw : Region.wanted o (yielded ops a.tmps) = true := by simp [Region.wanted, hgd]
  rw [if_pos hw]
  exact wp_append_elt he s x hop base A n c xs hs ho ad m c2 news hx hl hnews h1 h63 hbytes h

/-- What stands in a block of just these cells, as the append asks it. -/
theorem Blk.news {w : World} {g : Nat} {vs : List Value} {T : TypeId} (h : Blk w g vs T) : ∀ j u, vs[j]? = some u → w.cell? ((⟨g, 0, none⟩ : Addr).add j) = some u := fun j u hj => by
  rw [add_none, Nat.zero_add]; exact h.cell hj

/-! ## a part of a slice -/
/-- Where 's[lo:]' lies. -/
def cutA (A : Option Addr) (cap lo : Nat) : Option Addr := if cap = lo then A else A.map (·.add lo)
theorem cutA_some (b off cap lo : Nat) : cutA (some ⟨b, off, none⟩) cap lo = if cap = lo then some ⟨b, off, none⟩ else some ⟨b, off + lo, none⟩ := by
  unfold cutA
  split <;> simp [add_none]
theorem Bytes.cut {w : World} {A : Option Addr} {l : List Int} (h : Bytes w A l) (cap lo n : Nat) (hcap : l.length ≤ cap) : Bytes w (cutA A cap lo) ((l.drop lo).take n) := by
  refine h.part lo n _ fun b off e hn hlo => ?_
  subst e
  rw [cutA_some, if_neg (by omega)]
theorem sliced_one (t : TypeId) (A : Option Addr) (len cap lo hi : Nat) (w : World) (hs : (sizeOf (Try.prog.elem t)).run Try.prog w = .ok 1 w) (ht : Try.prog.underlying t = some (.slice (Try.prog.elem t))) (h1 : lo ≤ hi) (h2 : hi ≤ cap) :
    (Instr.slice t (.slice A len cap) (some (.int .i64 lo)) (some (.int .i64 hi)) none).run Try.prog w = .ok (.slice (cutA A cap lo) (hi - lo) (cap - lo)) w := by
  rw [run_slice_lh w t A len cap ht .i64 .i64 lo hi (by omega) (by omega) (by omega), hs]
  simp [Result.andThen, sliced, cutA]
theorem sliced_low (t : TypeId) (A : Option Addr) (len cap lo : Nat) (w : World) (hs : (sizeOf (Try.prog.elem t)).run Try.prog w = .ok 1 w) (ht : Try.prog.underlying t = some (.slice (Try.prog.elem t))) (h1 : lo ≤ len) :
    (Instr.slice t (.slice A len cap) (some (.int .i64 lo)) none none).run Try.prog w = .ok (.slice (cutA A cap lo) (len - lo) (cap - lo)) w := by
  rw [run_slice_l w t A len cap ht .i64 lo (by omega) (by omega), hs]
  simp [Result.andThen, sliced, cutA]
theorem elem8 : Try.prog.elem 44 = 5 := by kernel_rfl
theorem sizeof8 (w : World) : (sizeOf 5).run Try.prog w = .ok 1 w := by
  obtain ⟨i, hi, hzz⟩ := Option.map_eq_some_iff.1 info8
  simp only [Prod.mk.injEq] at hzz
  simp [sizeOf, typeInfo, hi, hzz]
/-- 's[lo:hi]', 's[lo:]' of bytes: laid ahead of a walk it keeps the place under one name. -/
theorem cut_lh (A : Option Addr) (len cap lo hi : Nat) (h1 : lo ≤ hi) (h2 : hi ≤ cap) (w : World) :
    (Instr.slice 44 (.slice A len cap) (some (.int .i64 lo)) (some (.int .i64 hi)) none).run Try.prog w = .ok (.slice (cutA A cap lo) (hi - lo) (cap - lo)) w :=
  sliced_one _ A len cap lo hi w (by rw [elem8]; exact sizeof8 w) (by rw [elem8]; exact Try.underlying44) h1 h2
theorem cut_l (A : Option Addr) (len cap lo : Nat) (h1 : lo ≤ len) (w : World) :
    (Instr.slice 44 (.slice A len cap) (some (.int .i64 lo)) none none).run Try.prog w = .ok (.slice (cutA A cap lo) (len - lo) (cap - lo)) w :=
  sliced_low _ A len cap lo w (by rw [elem8]; exact sizeof8 w) (by rw [elem8]; exact Try.underlying44) h1
end Go.Proofs.Ytpfkhcgeblihcaa.OwnE

/-
  More words for bytes that a call gathers by append: where they lie, their cells, and what another call's writes leave of them.
-/
namespace Go.Proofs.Ytpfkhcgeblihcaa.OwnM
open Go.ChangeShapes Go.WideShapes Go.ChangeAt Go.RowKit
open Bytes8 Blk8 Own8
set_option linter.unusedVariables false
set_option maxRecDepth 100000

theorem own_cap {w : World} {base n c : Nat} {A : Option Addr} {l : List Int} (h : Own w base A n c l) : n ≤ c ∧ c ≤ maxLen := by
  rcases h.2.2.2.2 with ⟨he, h0⟩ | ⟨g, cap, cur, he, _, _, h1, h2, _⟩
  · injection he with e1 e2 e3; subst e3; exact ⟨by omega, by decide⟩
  · injection he with e1 e2 e3; subst e3; exact ⟨h1, h2⟩
/-- A call that writes one block, another one, leaves it. -/
theorem own_grown {w w' : World} {base n c g : Nat} {A : Option Addr} {l : List Int} (h : Own w base A n c l) (hg : w.grownBy w' (some g)) (hlt : g < base) : Own w' base A n c l := by
  refine ⟨h.1, h.2.1, Nat.le_trans h.2.2.1 hg.size, h.2.2.2.1, ?_⟩
  rcases h.2.2.2.2 with h1 | ⟨k, cap, cur, h1, h2, h3, h4⟩
  · exact .inl h1
  · refine .inr ⟨k, cap, cur, h1, h2, ?_, h4⟩
    have hk : k < w.heap.size := by
      rcases Nat.lt_or_ge k w.heap.size with h | h
      · exact h
      · rw [Array.getElem?_eq_none h] at h3; cases h3
    rw [hg.block k hk (by intro e; injection e with e; omega)]; exact h3
theorem blk_grown {w w' : World} {b g : Nat} {vs : List Value} {T : TypeId} (h : Blk w b vs T) (hg : w.grownBy w' (some g)) (hne : b ≠ g) : Blk w' b vs T :=
  (hg.block b h.lt (by intro e; injection e with e; exact hne e)).trans h
theorem below_own {w0 w w' : World} {B g : Nat} (h : Below B w0 w) (hg : w.grownBy w' (some g)) (hB : B ≤ w.heap.size) (hg2 : B ≤ g) : Below B w0 w' :=
  h.grown hg hB (fun k e => by injection e with e; omega)
end Go.Proofs.Ytpfkhcgeblihcaa.OwnM

/-
  Words for a slice of slices of bytes that came in: each row's bytes, and all of them one behind the other.
-/
namespace Go.Proofs.Ytpfkhcgeblihcaa.Rows2
open Go.ChangeShapes Go.WideShapes Go.ChangeAt Go.RowKit
open Bytes8 Blk8 Own8
set_option linter.unusedVariables false
set_option maxRecDepth 100000

def InRows (w : World) (a : Option Addr) (len : Nat) (A : Nat → Option Addr) (L C : Nat → Nat) (P : Nat → List Int) : Prop :=
  ∀ r, r < len → ∃ b off, a = some ⟨b, off, none⟩ ∧ b < w.heap.size ∧ w.cell? ⟨b, off + r, none⟩ = some (.slice (A r) (L r) (C r)) ∧ Bytes w (A r) (P r) ∧ (P r).length = L r ∧ L r ≤ C r ∧ C r ≤ maxLen
theorem InRows.below {w w' : World} {a : Option Addr} {len : Nat} {A : Nat → Option Addr} {L C : Nat → Nat} {P : Nat → List Int} (h : InRows w a len A L C P) (hb : Below w.heap.size w w') : InRows w' a len A L C P := fun r hr => by
  obtain ⟨b, off, e, h1, h2, h3, h4⟩ := h r hr
  exact ⟨b, off, e, Nat.lt_of_lt_of_le h1 hb.size, (hb.cell (p := ⟨b, off + r, none⟩) h1).trans h2, h3.below hb (Nat.le_refl _), h4⟩

theorem rows_in {w : World} {a : Option Addr} {len cap : Nat} {A : Nat → Option Addr} {L C : Nat → Nat} {Z : Nat → List Int} (h : IsRows .u8 w a len cap A L C Z) :
    InRows w a len A L C (fun r => (Z r).take (L r)) ∧ len ≤ cap ∧ cap ≤ maxLen := by
  rcases h with ⟨rfl, rfl, rfl⟩ | ⟨x, rfl, hl, hm, hr⟩
  · exact ⟨fun r hr => absurd hr (by omega), Nat.le_refl _, by decide⟩
  · refine ⟨fun r hrl => ?_, hl, hm⟩
    obtain ⟨hc, hrow⟩ := hr r (by omega)
    obtain ⟨hb, hL, hcap, hmax, _⟩ := hrow.bytes
    obtain ⟨b, off, spot⟩ := x
    have hspot : spot = none := by
      have h0 := (hr 0 (by omega)).1
      simpa [Addr.add] using World.cell?_spot h0
    subst hspot
    have hlt := bounds_of_cell hc
    rw [add_none] at hc hlt
    exact ⟨b, off, rfl, hlt, hc, hb, hL, hcap, hmax⟩

/-- The rows up to the k-th, one behind the other. -/
def flat (P : Nat → List Int) (k : Nat) : List Int := ((List.range k).map P).flatten
theorem flat_zero (P : Nat → List Int) : flat P 0 = [] := rfl
theorem flat_succ (P : Nat → List Int) (k : Nat) : flat P (k + 1) = flat P k ++ P k := by simp [flat, List.range_succ]
theorem le_step {L : Nat → Nat} {k B : Nat} (h : ∀ r, r < k → L r ≤ B) (hk : L k ≤ B) : ∀ r, r < k + 1 → L r ≤ B := fun r hr => by
  rcases Nat.lt_or_ge r k with h1 | h1
  · exact h r h1
  · obtain rfl : r = k := by omega
    exact hk
/-- A slice of integers that came in, each cell by its place. -/
def InInts (k : IntKind) (w : World) (a : Option Addr) (len : Nat) (f : Nat → Int) : Prop :=
  ∀ i, i < len → ∃ b off, a = some ⟨b, off, none⟩ ∧ b < w.heap.size ∧ w.cell? ⟨b, off + i, none⟩ = some (.int k (f i)) ∧ (Lit.int k (f i)).wf = true
theorem InInts.below {k : IntKind} {w w' : World} {a : Option Addr} {len : Nat} {f : Nat → Int} (h : InInts k w a len f) (hb : Below w.heap.size w w') : InInts k w' a len f := fun i hi => by
  obtain ⟨b, off, e, h1, h2, h3⟩ := h i hi
  exact ⟨b, off, e, Nat.lt_of_lt_of_le h1 hb.size, (hb.cell (p := ⟨b, off + i, none⟩) h1).trans h2, h3⟩
theorem ints_in {k : IntKind} {w : World} {a : Option Addr} {len cap : Nat} {zs : List Int} (h : IsRow k w a len cap zs) : InInts k w a len (fun i => zs.getD i 0) ∧ len ≤ cap ∧ cap ≤ maxLen := by
  rcases h with ⟨rfl, rfl, rfl, rfl⟩ | ⟨x, rfl, hl, hm, hz, hcell, hwz⟩
  · exact ⟨fun i hi => absurd hi (by omega), Nat.le_refl _, by decide⟩
  · refine ⟨fun i hi => ?_, hl, hm⟩
    have hc := hcell i (by omega)
    obtain ⟨b, off, spot⟩ := x
    have hspot : spot = none := by
      have h0 := hcell 0 (by omega)
      simpa [Addr.add] using World.cell?_spot h0
    subst hspot
    have hlt := bounds_of_cell hc
    rw [add_none] at hc hlt
    refine ⟨b, off, rfl, hlt, hc, hwz _ ?_⟩
    show zs.getD i 0 ∈ zs
    rw [List.getD_eq_getElem?_getD, List.getElem?_eq_getElem (show i < zs.length by omega)]
    exact List.getElem_mem _
end Go.Proofs.Ytpfkhcgeblihcaa.Rows2

/-
  Rows of texts: what a call gathers, what can be read.
-/
namespace Go.Proofs.Ytpfkhcgeblihcaa.Pv8
open Go.ChangeShapes Go.WideShapes Go.ChangeAt Go.RowKit
open Bytes8 Blk8 Own8 OwnE Fa
set_option linter.unusedVariables false
set_option maxRecDepth 100000
set_option linter.unusedSimpArgs false


def cellsT (vs : List (List Int)) : List Value := vs.map fun v => .string (T v)
/-- Texts that a call gathers. -/
def OwnT (w : World) (base : Nat) (A : Option Addr) (n c : Nat) (vs : List (List Int)) : Prop := vs.length = n ∧ OwnE 9 1 w base A n c (cellsT vs)
theorem OwnT.alloc {w : World} {base : Nat} {A : Option Addr} {n c : Nat} {vs : List (List Int)} (h : OwnT w base A n c vs) (o : Obj) : OwnT (w.alloc o) base A n c vs := ⟨h.1, h.2.alloc o⟩
def Txts (w : World) (a : Option Addr) (vs : List (List Int)) : Prop :=
  ∀ i, i < vs.length → ∃ b off, a = some ⟨b, off, none⟩ ∧ b < w.heap.size ∧ w.cell? ⟨b, off + i, none⟩ = some (.string (T (vs.getD i [])))
theorem Txts.below {w w' : World} {a : Option Addr} {vs : List (List Int)} (h : Txts w a vs) (hb : Below w.heap.size w w') : Txts w' a vs := fun i hi => by
  obtain ⟨b, off, e, h1, h2⟩ := h i hi
  exact ⟨b, off, e, Nat.lt_of_lt_of_le h1 hb.size, (hb.cell (p := ⟨b, off + i, none⟩) h1).trans h2⟩
theorem OwnT.txts {w : World} {base : Nat} {A : Option Addr} {n c : Nat} {vs : List (List Int)} (h : OwnT w base A n c vs) : Txts w A vs := fun i hi => by
  obtain ⟨g, e, hb, hlt, hc⟩ := h.2.cell (i := i) (by unfold cellsT; rw [List.length_map]; exact hi)
  refine ⟨g, 0, e, hlt, ?_⟩
  rw [Nat.zero_add, hc]
  unfold cellsT
  rw [List.getElem?_map, List.getElem?_eq_getElem hi]
  simp [List.getElem?_eq_getElem hi]
end Go.Proofs.Ytpfkhcgeblihcaa.Pv8

/-
  Two rows of texts held against each other.
-/
namespace Go.Proofs.Ytpfkhcgeblihcaa.Pv8
open Go.ChangeShapes Go.WideShapes Go.ChangeAt Go.RowKit
open Bytes8 Blk8 Own8 OwnE Fa
set_option linter.unusedVariables false
set_option maxRecDepth 100000
set_option linter.unusedSimpArgs false

theorem tElt : Elt 9 22 1 16 (.string { data := #[] }) := ⟨Try.underlying22, by kernel_rfl, rfl, by decide⟩

set_option maxRecDepth 100000 in
/-- Two rows of the same texts. -/
theorem stexts_yes (a b : Option Addr) (vs : List (List Int)) (n c d : Nat) (w : World) (hP : Txts w a vs) (hQ : Txts w b vs) (hL : vs.length = n) (hmax : n ≤ 1000000) :
    Calls Try.prog 11 #[.slice a n c, .slice b n d] w fun e w' => e = .returned (.bool true) ∧ Below w.heap.size w w' := by
  have HP := Lib.hid hP
  have HQ := Lib.hid hQ
  have HL := Lib.hid hL
  have hmx : Try.prog.follows .mixedOrders = true := by kernel_rfl
  clear hP hQ hL
  go_enter Try.func11, Try.ntmps11
  go_wp2
  go_loopw [5] (fun i wr => ∃ j : Nat, j ≤ n ∧ i = .int .i64 (j : Int) ∧ Hid (Below w.heap.size w wr)) (fun i _ => n - (intOf i).toNat)
  case atStart => exact ⟨0, by omega, rfl, Lib.hid (Below.refl _ _)⟩
  case round =>
    obtain ⟨j, hj, rfl, hB⟩ := hrel
    rcases Nat.lt_or_ge j n with hlt | hge
    · obtain ⟨b1, off1, rfl, hbl1, hc0⟩ := (HP.out.below hB.out) j (by have := HL.out; omega)
      obtain ⟨b2, off2, rfl, hbl2, hd0⟩ := (HQ.out.below hB.out) j (by have := HL.out; omega)
      have hin : (j : Int) < (n : Int) := by omega
      generalize T (vs.getD j []) = E1 at *
      go_wp2_with fail
      go_quiet (fail)
      go_wp2
      go_round
      case rel => exact ⟨j + 1, by omega, by go_num, Lib.hid (below_drewN hB.out _)⟩
      case measure => simp [intOf]; omega
    · obtain rfl : j = n := by omega
      go_wp2
      go_ret
      exact ⟨rfl, hB.out⟩
end Go.Proofs.Ytpfkhcgeblihcaa.Pv8

/-
  'append' of bytes onto one of several rows of the call's own: where the new slice lies, and that the other rows stay.
-/
namespace Go.Proofs.Ytpfkhcgeblihcaa.OwnA
open Go.ChangeShapes Go.WideShapes Go.ChangeAt Go.RowKit
open Bytes8 Blk8 Own8 OwnM
set_option linter.unusedVariables false
set_option maxRecDepth 100000

def ownB (A : Option Addr) : Option Nat := A.map (·.block)
theorem ownB_eq (A : Option Addr) (n c : Nat) : (Value.slice A n c).ownBlock = ownB A := by cases A <;> rfl
/-- Two slices lie in no block together. -/
def Apart (A B : Option Addr) : Prop := ∀ g, ownB A = some g → ownB B ≠ some g
theorem Apart.symm {A B : Option Addr} (h : Apart A B) : Apart B A := fun g h1 h2 => h g h2 h1
theorem Apart.none (B : Option Addr) : Apart none B := fun _ h => by cases h

theorem own_kept {w w' : World} {base n c : Nat} {row : Option Nat} {A : Option Addr} {l : List Int} (h : Own w base A n c l) (hg : w.grownBy w' row) (hne : ∀ g, ownB A = some g → row ≠ some g) : Own w' base A n c l := by
  refine ⟨h.1, h.2.1, Nat.le_trans h.2.2.1 hg.size, h.2.2.2.1, ?_⟩
  rcases h.2.2.2.2 with h1 | ⟨k, cap, cur, h1, h2, h3, h4⟩
  · exact .inl h1
  · refine .inr ⟨k, cap, cur, h1, h2, ?_, h4⟩
    have hk : k < w.heap.size := by
      rcases Nat.lt_or_ge k w.heap.size with h | h
      · exact h
      · rw [Array.getElem?_eq_none h] at h3; cases h3
    injection h1 with e1 e2 e3
    subst e1
    rw [hg.block k hk (fun e => hne k rfl e.symm)]; exact h3

theorem run_append_at (w : World) (ty : TypeId) (base : Nat) (A : Option Addr) (n c : Nat) (l : List Int) (ho : Own w base A n c l) (A2 : Option Addr) (m c2 : Nat) (ys : List Int) (hb : Bytes w A2 ys) (hm : ys.length = m) (hsz : n + m ≤ 70368744177664) :
    ∃ A' c' w', (Builtin.append_ #[44, 44] ty #[.slice A n c, .slice A2 m c2]).run Try.prog w = .ok (.slice A' (n + m) c') w' ∧ Own w' base A' (n + m) c' (l ++ ys) ∧ w.grownBy w' (ownB A) ∧ (ownB A' = ownB A ∨ ownB A' = some w.heap.size) := by
  obtain ⟨i, hi, hzz⟩ := Option.map_eq_some_iff.1 info8
  simp only [Prod.mk.injEq] at hzz
  obtain ⟨hz, hs, hby⟩ := hzz
  have hown := ho.2.2.2
  have done : ∀ (v' : Value) (w' : World), w'.ownsRow base 5 1 v' (n + m) (l.map (Value.int .u8) ++ ys.map (Value.int .u8)) → w.grownBy w' (Value.slice A n c).ownBlock → (v'.ownBlock = (Value.slice A n c).ownBlock ∨ v'.ownBlock = some w.heap.size) →
      ∃ A' c', v' = .slice A' (n + m) c' ∧ Own w' base A' (n + m) c' (l ++ ys) ∧ w.grownBy w' (ownB A) ∧ (ownB A' = ownB A ∨ ownB A' = some w.heap.size) := by
    intro v' w' h2 h3 h4
    have hsize := h3.size
    rw [ownB_eq] at h3 h4
    have hL : (l ++ ys).length = n + m := by rw [List.length_append, ho.2.1, hm]
    rw [← List.map_append] at h2
    rcases h2.2 with ⟨rfl, h0⟩ | ⟨g, cap, cur, rfl, _⟩
    · rw [h0] at h2 hL ⊢
      rw [ownB_eq] at h4
      exact ⟨none, 0, rfl, ⟨ho.1.app hb.1, hL, Nat.le_trans ho.2.2.1 hsize, h2⟩, h3, h4⟩
    · rw [ownB_eq] at h4
      exact ⟨_, _, rfl, ⟨ho.1.app hb.1, hL, Nat.le_trans ho.2.2.1 hsize, h2⟩, h3, h4⟩
  have hlen : (ys.map (Value.int .u8)).length = m * 1 := by simp [hm]
  by_cases h0 : 0 < ys.length
  · obtain ⟨ad, rfl, hsrc⟩ := hb.source w (Below.refl _ _) h0
    obtain ⟨v', w', hr, h2, h3, _, h4⟩ := run_append_own_at (P := Try.prog) w base 44 ty 5 i (.int .u8 0) 1 1 Try.underlying44 hi hz hs hby rfl (by decide) _ n _ hown ad m c2 (ys.map (Value.int .u8)) hlen
      (fun j u hu => by
        rw [List.getElem?_map] at hu
        obtain ⟨x, hx, rfl⟩ := Option.map_eq_some_iff.1 hu
        exact hsrc j x hx) (ones ys) (by unfold maxLen; omega) (by omega) ho.2.2.1
    obtain ⟨A', c', rfl, h5⟩ := done v' w' h2 h3 h4
    exact ⟨A', c', w', hr, h5⟩
  · obtain rfl : ys = [] := List.eq_nil_of_length_eq_zero (by omega)
    obtain rfl : m = 0 := by simpa using hm.symm
    cases A2 with
    | some ad =>
      obtain ⟨v', w', hr, h2, h3, _, h4⟩ := run_append_own_at (P := Try.prog) w base 44 ty 5 i (.int .u8 0) 1 1 Try.underlying44 hi hz hs hby rfl (by decide) _ n _ hown ad 0 c2 [] rfl
        (fun j u hu => by simp at hu) (fun u hu => by cases hu) (by unfold maxLen; omega) (by omega) ho.2.2.1
      obtain ⟨A', c', rfl, h5⟩ := done v' w' h2 h3 h4
      exact ⟨A', c', w', hr, h5⟩
    | none =>
      refine ⟨A, c, w, ?_, ?_, World.grownBy.refl _ _, .inl rfl⟩
      · rcases hown.2 with ⟨he, h0'⟩ | ⟨g, cap, cur, he, _, _, hnc, _⟩
        · injection he with e1 e2 e3
          subst e1; subst e2; subst e3
          simp [Builtin.append_, run_underlying Try.underlying44, sizeOf, typeInfo, hi, Builtin.lenOf, Builtin.firstCells]
        · injection he with e1 e2 e3
          subst e1; subst e3
          simp [Builtin.append_, run_underlying Try.underlying44, sizeOf, typeInfo, hi, Builtin.lenOf, Builtin.firstCells, hnc, storeCells]
      · rw [Nat.add_zero, List.append_nil]; exact ho

/-- .. in a walk: the other rows stay, and the new slice lies apart from them. -/
theorem wpList_append_at {w : World} {ops : Array Oper} {rest : List Oper} {o : Oper} {a : Act} {Q : Exit → Act → World → Prop} (hgd : o.guard = none) (s x : Operand)
    (hop : o.op = .call { callee := .builtin .append, args := #[s, x], argTypes := #[44, 44] })
    (base : Nat) (A : Option Addr) (n c : Nat) (l : List Int) (hs : a.eval s = .slice A n c) (ho : Own w base A n c l) (A2 : Option Addr) (m c2 : Nat) (ys : List Int) (hx : a.eval x = .slice A2 m c2) (hb : Bytes w A2 ys) (hm : ys.length = m) (hsz : n + m ≤ 70368744177664)
    (B : Option Addr) (nb cb : Nat) (lb : List Int) (hB : Own w base B nb cb lb) (hap : Apart A B)
    (h : ∀ A' c' w', Own w' base A' (n + m) c' (l ++ ys) → Own w' base B nb cb lb → Apart A' B → Below base w w' → wpList Try.prog ops Q rest (a.put o.dst (.slice A' (n + m) c')) w') : wpList Try.prog ops Q (o :: rest) a w :=
  wpList_plain hgd fun K hK => by
    obtain ⟨A', c', w', hr, h1, h2, h3⟩ := run_append_at w o.type base A n c l ho A2 m c2 ys hb hm hsz
    unfold Oper.wp execOp
    simp only [hop, resolve, invoke, builtin, Sem.run_bind, Sem.run_pure, Result.andThen_ok, List.map_toArray, List.map_cons, List.map_nil, hs, hx, hr]
    have hlt := fun g (hg : ownB B = some g) => hB.lt g (by rw [ownB_eq]; exact hg)
    refine hK _ _ (h A' c' w' h1 (own_kept hB h2 (fun g hg e => hap g e hg)) (fun g hg hg2 => ?_) (below_grown h2 ho.2.2.1 fun k hk => (ho.lt k (by rw [ownB_eq]; exact hk)).1))
    rcases h3 with h3 | h3
    · exact hap g (h3 ▸ hg) hg2
    · rw [h3] at hg
      injection hg with hg
      have := (hlt g hg2).2
      omega
end Go.Proofs.Ytpfkhcgeblihcaa.OwnA

/-
  'append' onto a slice of whatever elements: where the new one lies.
-/
namespace Go.Proofs.Ytpfkhcgeblihcaa.Dc
open Go.ChangeShapes Go.WideShapes Go.ChangeAt Go.RowKit
open Bytes8 Blk8 Own8 OwnA OwnM OwnE
set_option linter.unusedVariables false
set_option linter.unusedSimpArgs false
set_option maxRecDepth 100000

/-! ## 'append' onto a slice of whatever elements: where the new one lies -/
theorem run_append_elt_at {E S : TypeId} {size bytes : Nat} {z : Value} (he : Elt E S size bytes z) (w : World) (ty : TypeId) (base : Nat) (A : Option Addr) (n c : Nat) (xs : List Value) (ho : OwnE E size w base A n c xs) (ad : Addr) (m c2 : Nat) (news : List Value) (hl : news.length = m * size)
    (hnews : ∀ j u, news[j]? = some u → w.cell? (ad.add j) = some u) (h1 : ∀ u ∈ news, u.oneCell' = true) (h63 : n + m ≤ 4611686018427387904) (hbytes : (n + m) * bytes ≤ 140737488355328) (hml : n + m ≤ maxLen) :
    ∃ A' c' w', (Builtin.append_ #[S, S] ty #[.slice A n c, .slice (some ad) m c2]).run Try.prog w = .ok (.slice A' (n + m) c') w' ∧ OwnE E size w' base A' (n + m) c' (xs ++ news) ∧ w.grownBy w' (ownB A) ∧ (ownB A' = ownB A ∨ ownB A' = some w.heap.size) := by
  obtain ⟨i, hi, hzz⟩ := Option.map_eq_some_iff.1 he.info
  simp only [Prod.mk.injEq] at hzz
  obtain ⟨hz, hs, hby⟩ := hzz
  obtain ⟨v', w', hr, h2, h3, h4, h5⟩ := run_append_own_at (P := Try.prog) w base S ty E i z size bytes he.under hi hz hs hby he.zero he.pos _ n xs ho.2 ad m c2 news hl hnews h1 hml hbytes ho.1
  rw [ownB_eq] at h3 h5
  rcases h2.2 with ⟨rfl, h0⟩ | ⟨g, cap, cur, rfl, _⟩
  · rw [h0] at h2 ⊢
    rw [ownB_eq] at h5
    exact ⟨none, 0, w', hr, ⟨Nat.le_trans ho.1 h3.size, h2⟩, h3, h5⟩
  · rw [ownB_eq] at h5
    exact ⟨_, _, w', hr, ⟨Nat.le_trans ho.1 h3.size, h2⟩, h3, h5⟩
theorem wpList_append_elt_at {E S : TypeId} {size bytes : Nat} {z : Value} (he : Elt E S size bytes z) {w : World} {ops : Array Oper} {rest : List Oper} {o : Oper} {a : Act} {Q : Exit → Act → World → Prop} (hgd : o.guard = none) (s x : Operand)
    (hop : o.op = .call { callee := .builtin .append, args := #[s, x], argTypes := #[S, S] })
    (base : Nat) (A : Option Addr) (n c : Nat) (xs : List Value) (hs : a.eval s = .slice A n c) (ho : OwnE E size w base A n c xs) (ad : Addr) (m c2 : Nat) (news : List Value) (hx : a.eval x = .slice (some ad) m c2) (hl : news.length = m * size)
    (hnews : ∀ j u, news[j]? = some u → w.cell? (ad.add j) = some u) (h1 : ∀ u ∈ news, u.oneCell' = true) (h63 : n + m ≤ 4611686018427387904) (hbytes : (n + m) * bytes ≤ 140737488355328) (hml : n + m ≤ maxLen)
    (h : ∀ A' c' w', OwnE E size w' base A' (n + m) c' (xs ++ news) → w.grownBy w' (ownB A) → (ownB A' = ownB A ∨ ownB A' = some w.heap.size) → wpList Try.prog ops Q rest (a.put o.dst (.slice A' (n + m) c')) w') : wpList Try.prog ops Q (o :: rest) a w :=
  wpList_plain hgd fun _ hK => by
    obtain ⟨A', c', w', hr, h2, h3, h4⟩ := run_append_elt_at he w o.type base A n c xs ho ad m c2 news hl hnews h1 h63 hbytes hml
    unfold Oper.wp execOp
    simp only [hop, resolve, invoke, builtin, Sem.run_bind, Sem.run_pure, Result.andThen_ok, List.map_toArray, List.map_cons, List.map_nil, hs, hx, hr]
    exact hK _ _ (h A' c' w' h2 h3 h4)
theorem step_append_elt_at {E S : TypeId} {size bytes : Nat} {z : Value} (he : Elt E S size bytes z) {w : World} {ops : Array Oper} {o : Oper} {a : Act} {K : Act → World → Prop} {Q : Exit → Act → World → Prop} {F : Prop} (hgd : o.guard = none) (s x : Operand)
    (hop : o.op = .call { callee := .builtin .append, args := #[s, x], argTypes := #[S, S] })
    (base : Nat) (A : Option Addr) (n c : Nat) (xs : List Value) (hs : a.eval s = .slice A n c) (ho : OwnE E size w base A n c xs) (ad : Addr) (m c2 : Nat) (news : List Value) (hx : a.eval x = .slice (some ad) m c2) (hl : news.length = m * size)
    (hnews : ∀ j u, news[j]? = some u → w.cell? (ad.add j) = some u) (h1 : ∀ u ∈ news, u.oneCell' = true) (h63 : n + m ≤ 4611686018427387904) (hbytes : (n + m) * bytes ≤ 140737488355328) (hml : n + m ≤ maxLen)
    (h : ∀ A' c' w', OwnE E size w' base A' (n + m) c' (xs ++ news) → w.grownBy w' (ownB A) → (ownB A' = ownB A ∨ ownB A' = some w.heap.size) → K (a.put o.dst (.slice A' (n + m) c')) w') :
    if Region.wanted o (yielded ops a.tmps) = true then Oper.wp Try.prog o a w K Q else F := by
  have hw : Region.wanted o (yielded ops a.tmps) = true := by simp [Region.wanted, hgd]
  rw [if_pos hw]
  obtain ⟨A', c', w', hr, h2, h3, h4⟩ := run_append_elt_at he w o.type base A n c xs ho ad m c2 news hl hnews h1 h63 hbytes hml
  unfold Oper.wp execOp
  simp only [hop, resolve, invoke, builtin, Sem.run_bind, Sem.run_pure, Result.andThen_ok, List.map_toArray, List.map_cons, List.map_nil, hs, hx, hr]
  exact h A' c' w' h2 h3 h4
/-- .. where the operation has a guard that says yes. -/
theorem wpList_append_elt_want {E S : TypeId} {size bytes : Nat} {z : Value} (he : Elt E S size bytes z) {w : World} {ops : Array Oper} {rest : List Oper} {o : Oper} {a : Act} {Q : Exit → Act → World → Prop} (hw : Region.wanted o (yielded ops a.tmps) = true) (s x : Operand)
    (hop : o.op = .call { callee := .builtin .append, args := #[s, x], argTypes := #[S, S] })
    (base : Nat) (A : Option Addr) (n c : Nat) (xs : List Value) (hs : a.eval s = .slice A n c) (ho : OwnE E size w base A n c xs) (ad : Addr) (m c2 : Nat) (news : List Value) (hx : a.eval x = .slice (some ad) m c2) (hl : news.length = m * size)
    (hnews : ∀ j u, news[j]? = some u → w.cell? (ad.add j) = some u) (h1 : ∀ u ∈ news, u.oneCell' = true) (h63 : n + m ≤ 4611686018427387904) (hbytes : (n + m) * bytes ≤ 140737488355328)
    (h : ∀ A' c' w', OwnE E size w' base A' (n + m) c' (xs ++ news) → Below base w w' → wpList Try.prog ops Q rest (a.put o.dst (.slice A' (n + m) c')) w') : wpList Try.prog ops Q (o :: rest) a w :=
  BigFrame.wpList_want hw fun _ hK => wp_append_elt he s x hop base A n c xs hs ho ad m c2 news hx hl hnews h1 h63 hbytes fun A' c' w' h1 h2 => hK _ _ (h A' c' w' h1 h2)
/-- A row of the call's own stays, where another one grew. -/
theorem OwnE.keptG {E : TypeId} {size : Nat} {w w' : World} {base n c : Nat} {row : Option Nat} {A : Option Addr} {xs : List Value} (h : OwnE E size w base A n c xs) (hg : w.grownBy w' row) (hne : ∀ g, ownB A = some g → row ≠ some g) : OwnE E size w' base A n c xs := by
  refine ⟨Nat.le_trans h.1 hg.size, h.2.1, ?_⟩
  rcases h.2.2 with h1 | ⟨k, cap, cur, h1, h2, h3, h4⟩
  · exact .inl h1
  · refine .inr ⟨k, cap, cur, h1, h2, ?_, h4⟩
    have hk : k < w.heap.size := by
      rcases Nat.lt_or_ge k w.heap.size with h | h
      · exact h
      · rw [Array.getElem?_eq_none h] at h3; cases h3
    injection h1 with e1 e2 e3
    subst e1
    rw [hg.block k hk (fun e => hne k rfl e.symm)]; exact h3
theorem apart_grown {w : World} {A A' B : Option Addr} (hap : Apart A B) (hB : ∀ g, ownB B = some g → g < w.heap.size) (hat : ownB A' = ownB A ∨ ownB A' = some w.heap.size) : Apart A' B := fun g hg hg2 => by
  rcases hat with h3 | h3
  · exact hap g (h3 ▸ hg) hg2
  · rw [h3] at hg
    injection hg with hg
    have := hB g hg2
    omega
theorem OwnE.ltB {E : TypeId} {size : Nat} {w : World} {base n c : Nat} {A : Option Addr} {xs : List Value} (h : OwnE E size w base A n c xs) : ∀ g, ownB A = some g → base ≤ g ∧ g < w.heap.size := fun g hg => h.lt g (by rw [ownB_eq]; exact hg)
end Go.Proofs.Ytpfkhcgeblihcaa.Dc

/-
  A world that has grown: draws, and new blocks.
-/
namespace Go.Proofs.Ytpfkhcgeblihcaa.Fb
open Go.ChangeShapes Go.WideShapes Go.ChangeAt Go.RowKit
open Bytes8 Blk8
set_option linter.unusedVariables false
set_option maxRecDepth 100000
set_option linter.unusedSimpArgs false

/-! ## a world that has grown -/
/-- Draws, and new blocks. -/
def Grew (w w' : World) : Prop := ∃ q os, w' = Sort.grow (w.drewN q) os
theorem Grew.refl (w : World) : Grew w w := ⟨0, #[], by rw [Sort.grow_empty]; rfl⟩
theorem Grew.alloc {w w' : World} (h : Grew w w') (o : Obj) : Grew w (w'.alloc o) := by
  obtain ⟨q, os, rfl⟩ := h
  exact ⟨q, os ++ #[o], by rw [Sort.alloc_eq_grow, Sort.grow_grow]⟩
theorem Grew.drew {w w' : World} (h : Grew w w') : Grew w w'.drew := by
  obtain ⟨q, os, rfl⟩ := h
  exact ⟨q + 1, os, rfl⟩
theorem Grew.drewN {w w' : World} (h : Grew w w') (n : Nat) : Grew w (w'.drewN n) := by
  obtain ⟨q, os, rfl⟩ := h
  refine ⟨q + n, os, ?_⟩
  simp only [Sort.grow, World.drewN, Nat.add_assoc]
theorem Grew.trans {a b c : World} (h : Grew a b) (k : Grew b c) : Grew a c := by
  obtain ⟨q, os, rfl⟩ := h
  obtain ⟨q', os', rfl⟩ := k
  refine ⟨q + q', os ++ os', ?_⟩
  simp only [Sort.grow, World.drewN, Nat.add_assoc, Array.append_assoc]
theorem Grew.below {w w' : World} (h : Grew w w') : Below w.heap.size w w' := by
  obtain ⟨q, os, rfl⟩ := h
  refine ⟨rfl, rfl, rfl, by simp [Sort.grow, World.drewN], fun k hk => ?_⟩
  exact Sort.heap_grow_old (w.drewN q) os hk
theorem Grew.boxed (w : World) (o : Obj) : Grew w (w.alloc o) := (Grew.refl w).alloc o
end Go.Proofs.Ytpfkhcgeblihcaa.Fb

/-
  '[]byte(s)': bytes of the call's own.
-/
namespace Go.Proofs.Ytpfkhcgeblihcaa.Fc
open Go.ChangeShapes Go.WideShapes Go.ChangeAt Go.RowKit
open Bytes8 Blk8 Fa Fb
set_option linter.unusedVariables false
set_option maxRecDepth 100000
set_option linter.unusedSimpArgs false

/-- '[]byte(s)': bytes of the call's own. -/
theorem text_conv (l : List Int) (hA : AllB l) : ∃ (cf : World → Nat) (mk : World → World), ∀ w,
    (convert 9 44 (.string (T l))).run Try.prog w = .ok (.slice (some ⟨w.heap.size, 0, none⟩) l.length (cf w)) (mk w) ∧ (∀ g, w.heap.size = g → Bytes (mk w) (some ⟨g, 0, none⟩) l) ∧ Grew w (mk w) := by
  refine ⟨fun w => grownCap w (T l).size 0 5, fun w => w.drew.alloc (.cells (bytesRow (T l) (grownCap w (T l).size 0 5)) 5 ((bytesRow (T l) (grownCap w (T l).size 0 5)).size, (bytesRow (T l) (grownCap w (T l).size 0 5)).size + 1)), fun w => ⟨?_, ?_, ?_⟩⟩
  · rw [run_bytes_of_string w 9 44 5 (T l) Try.underlying9 Try.underlying44 Try.underlying5, T_size]
  · rintro g rfl
    refine ⟨hA, fun i hi => ⟨w.heap.size, 0, rfl, by simp, ?_⟩⟩
    rw [Nat.zero_add]
    show (w.drew.alloc (.cells _ _ _)).cell? ⟨w.drew.heap.size, i, none⟩ = _
    rw [World.cell?_alloc_mark]
    have hd : i < (T l).data.size := by
      have := T_size l
      show i < (T l).size
      omega
    refine (bytesRow_at (T l) _ i hd).trans ?_
    have e1 : (T l).data[i] = (T l).toList[i]'(by rw [ByteArray.toList_eq]; simpa using hd) := by simp only [ByteArray.toList_eq]; rfl
    rw [e1]
    simp only [T_toList, List.getElem_map]
    have hv := hA l[i] (List.getElem_mem hi)
    have e3 : l.getD i 0 = l[i] := by simp [List.getElem?_eq_getElem hi]
    rw [e3]
    have e4 : (((l[i]).toNat.toUInt8.toNat : Nat) : Int) = l[i] := by simp; omega
    rw [e4]
  · exact ((Grew.refl w).drew).alloc _

/-- .. in a walk. -/
theorem wp_text {w : World} {o : Oper} {a : Act} {K : Act → World → Prop} {Q : Exit → Act → World → Prop} (x : Operand) (hop : o.op = .convert 9 44 x) (l : List Int) (hA : AllB l) (n : Nat) (hn : l.length = n) (g : Nat) (hg : w.heap.size = g) (hx : a.eval x = .string (T l))
    (h : ∀ c w', Bytes w' (some ⟨g, 0, none⟩) l → Grew w w' → K (a.put o.dst (.slice (some ⟨g, 0, none⟩) n c)) w') : Oper.wp Try.prog o a w K Q := by
  obtain ⟨cf, mk, hmk⟩ := text_conv l hA
  obtain ⟨h1, h2, h3⟩ := hmk w
  unfold Oper.wp execOp
  simp only [hop, resolve, Sem.run_bind, Sem.run_pure, Result.andThen_ok, hx, h1]
  subst hn
  subst hg
  exact h _ _ (h2 _ rfl) h3
theorem step_text {w : World} {ops : Array Oper} {o : Oper} {a : Act} {K : Act → World → Prop} {Q : Exit → Act → World → Prop} {E : Prop} (hgd : o.guard = none) (x : Operand) (hop : o.op = .convert 9 44 x) (l : List Int) (hA : AllB l) (n : Nat) (hn : l.length = n) (g : Nat) (hg : w.heap.size = g) (hx : a.eval x = .string (T l))
    (h : ∀ c w', Bytes w' (some ⟨g, 0, none⟩) l → Grew w w' → K (a.put o.dst (.slice (some ⟨g, 0, none⟩) n c)) w') :
    if Region.wanted o (yielded ops a.tmps) = true then Oper.wp Try.prog o a w K Q else E := by
  have hw : Region.wanted o (yielded ops a.tmps) = true := by simp [Region.wanted, hgd]
  rw [if_pos hw]
  exact wp_text x hop l hA n hn g hg hx h
theorem wpList_text {w : World} {ops : Array Oper} {rest : List Oper} {o : Oper} {a : Act} {Q : Exit → Act → World → Prop} (hgd : o.guard = none) (x : Operand) (hop : o.op = .convert 9 44 x) (l : List Int) (hA : AllB l) (n : Nat) (hn : l.length = n) (g : Nat) (hg : w.heap.size = g) (hx : a.eval x = .string (T l))
    (h : ∀ c w', Bytes w' (some ⟨g, 0, none⟩) l → Grew w w' → wpList Try.prog ops Q rest (a.put o.dst (.slice (some ⟨g, 0, none⟩) n c)) w') : wpList Try.prog ops Q (o :: rest) a w :=
  wpList_plain hgd fun K hK => wp_text x hop l hA n hn g hg hx fun c w' h1 h2 => hK _ _ (h c w' h1 h2)
end Go.Proofs.Ytpfkhcgeblihcaa.Fc

/-
  What the small functions of package field answer, and the document's own: names, flaws, payloads.
-/
namespace Go.Proofs.Ytpfkhcgeblihcaa.Fb
open Go.ChangeShapes Go.WideShapes Go.ChangeAt Go.RowKit
open Bytes8 Blk8 Fa
set_option linter.unusedVariables false
set_option maxRecDepth 100000
set_option linter.unusedSimpArgs false

theorem rname_any (l : List Int) (hA : AllB l) (hmax : l.length ≤ 9223372036854775807) (w : World) : Calls Try.prog 22 #[.string (T l)] w fun e w' => e = .returned (.bool (nmB l)) ∧ w = w' := by
  have hsz := T_size l
  have HI := Lib.hid (index_at l hA)
  have HC := Lib.hid fun j => hA.at_ j
  /- What keeps a name from being one, place by place. -/
  have HN := Lib.hid (fun j (hj : j < l.length) (h : okC (l.getD j 0) = false ∨ j = 0 ∧ isDig (l.getD j 0) = true) => (by
    rcases h with h | ⟨rfl, h⟩
    · exact nmB_no hj h
    · unfold nmB; rw [h]; simp : nmB l = false))
  have HE := Lib.hid (fun (h : ∀ j, j < l.length → okC (l.getD j 0) = true ∧ (j = 0 → isDig (l.getD j 0) = false)) => (by
    rcases Nat.eq_zero_or_pos l.length with h0 | h0
    · obtain rfl := List.eq_nil_of_length_eq_zero h0
      rfl
    · unfold nmB
      rw [(h 0 h0).2 rfl, all_of fun j hj => (h j hj).1]
      simp : nmB l = (decide (1 ≤ l.length) && decide (l.length ≤ 64))))
  generalize hL : l.length = len at *
  have HL := Lib.hid hL
  clear hL
  generalize T l = S at *
  go_enter Try.func22, Try.ntmps22
  go_wp2
  go_loop [3] (fun i => ∃ k : Nat, k ≤ len ∧ i = .int .i64 (k : Int) ∧ Hid (∀ j, j < k → okC (l.getD j 0) = true ∧ (j = 0 → isDig (l.getD j 0) = false))) (fun i => len - (intOf i).toNat)
  case atStart => exact ⟨0, by omega, rfl, Lib.hid fun j hj => absurd hj (by omega)⟩
  case round =>
    obtain ⟨k, hk, rfl, hall⟩ := hrel
    rcases Nat.lt_or_ge k len with hlt | hge
    · have hidx := HI.out k (by omega)
      have hin : (k : Int) < (len : Int) := by omega
      obtain ⟨c1, c2⟩ := HC.out k
      have HNk := Lib.hid (HN.out k (by omega))
      have HKk := Lib.hid (fun (h : okC (l.getD k 0) = true ∧ (k = 0 → isDig (l.getD k 0) = false)) j (hj : j < k + 1) => (by
        rcases Nat.lt_or_ge j k with h1 | h1
        · exact hall.out j h1
        · obtain rfl : j = k := by omega
          exact h : okC (l.getD j 0) = true ∧ (j = 0 → isDig (l.getD j 0) = false)))
      clear hall
      generalize l.getD k 0 = c at *
      have hgo : ((48 ≤ c ∧ c ≤ 57 ∧ 0 < k) ∨ (57 < c ∧ 65 ≤ c ∧ c ≤ 90) ∨ c = 95) ∧ (okC c = true ∧ (k = 0 → isDig c = false)) ∨ (c < 48 ∨ (48 ≤ c ∧ c ≤ 57 ∧ k = 0) ∨ (57 < c ∧ c < 65) ∨ (90 < c ∧ c ≠ 95)) ∧ (okC c = false ∨ k = 0 ∧ isDig c = true) := by
        simp only [okC, isDig, isLet, Bool.or_eq_true, Bool.and_eq_true, decide_eq_true_eq, Bool.or_eq_false_iff, Bool.and_eq_false_iff, decide_eq_false_iff_not]
        omega
      rcases hgo with ⟨hd, hok⟩ | ⟨hd, hok⟩
      · have HK2 := Lib.hid (HKk.out hok)
        clear HNk HKk hok
        rcases hd with ⟨d1, d2, d3⟩ | ⟨d1, d2, d3⟩ | rfl
        all_goals
          go_wp2
          go_round
          case rel => exact ⟨k + 1, by omega, by go_num, HK2⟩
          case measure => simp [intOf]; omega
      · have HN2 := Lib.hid (HNk.out hok)
        clear HKk HNk hok
        rcases hd with d1 | ⟨d1, d2, d3⟩ | ⟨d1, d2⟩ | ⟨d1, d2⟩
        · go_wp2
          go_ret
          exact ⟨ret_bool HN2.out.symm, rfl⟩
        · have hk0 : ¬ (0 : Int) < (k : Int) := by omega
          have hk1 : ¬ 0 < k := by omega
          clear d3
          go_wp2
          go_ret
          exact ⟨ret_bool HN2.out.symm, rfl⟩
        · go_wp2
          go_ret
          exact ⟨ret_bool HN2.out.symm, rfl⟩
        · have h95 : (c == 95) = false := by simpa using d2
          clear d2
          go_wp2
          go_ret
          exact ⟨ret_bool HN2.out.symm, rfl⟩
    · obtain rfl : k = len := by omega
      have HYk := Lib.hid (HE.out (fun j hj => hall.out j (by have := HL.out; omega)))
      clear hall
      have h3 : k = 0 ∨ (1 ≤ k ∧ k ≤ 64) ∨ 64 < k := by omega
      rcases h3 with rfl | ⟨h1, h2⟩ | h1
      · have HY2 := Lib.hid (HYk.out.trans (show (decide (1 ≤ 0) && decide (0 ≤ 64)) = false from rfl))
        clear HYk
        go_wp2
        go_ret
        exact ⟨ret_bool HY2.out.symm, rfl⟩
      · have HY2 := Lib.hid (HYk.out.trans (show (decide (1 ≤ k) && decide (k ≤ 64)) = true by rw [decide_eq_true h1, decide_eq_true h2]; rfl))
        clear HYk
        have hdd : decide ((k : Int) ≤ 64) = true := by simp; omega
        go_wp2
        go_ret
        exact ⟨ret_bool HY2.out.symm, rfl⟩
      · have HY2 := Lib.hid (HYk.out.trans (show (decide (1 ≤ k) && decide (k ≤ 64)) = false by rw [decide_eq_false (show ¬ k ≤ 64 by omega)]; simp))
        clear HYk
        have hdd : decide ((k : Int) ≤ 64) = false := by simp; omega
        go_wp2
        go_ret
        exact ⟨ret_bool HY2.out.symm, rfl⟩

abbrev box (n v : List Int) : Obj := .cells #[.string (T n), .string (T v)] 40
end Go.Proofs.Ytpfkhcgeblihcaa.Fb

/-
  What the small functions of package field answer, and the document's own: names, flaws, payloads.
-/
namespace Go.Proofs.Ytpfkhcgeblihcaa.Fb
open Go.ChangeShapes Go.WideShapes Go.ChangeAt Go.RowKit
open Bytes8 Blk8 Fa
set_option linter.unusedVariables false
set_option maxRecDepth 100000
set_option linter.unusedSimpArgs false

/-! ## names -/
theorem isDigit_any (c : Int) (w : World) : Calls Try.prog 48 #[.int .u8 c] w fun e w' => e = .returned (.bool (isDig c)) ∧ w = w' := by
  by_cases h1 : 48 ≤ c <;> by_cases h2 : c ≤ 57
  all_goals
    go_enter Try.func48, Try.ntmps48
    go_wp2
    go_ret
    exact ⟨by simp [isDig, h1, h2], rfl⟩
theorem isLetter_any (c : Int) (w : World) : Calls Try.prog 49 #[.int .u8 c] w fun e w' => e = .returned (.bool (isLet c)) ∧ w = w' := by
  by_cases h1 : 65 ≤ c <;> by_cases h2 : c ≤ 90
  all_goals
    go_enter Try.func49, Try.ntmps49
    go_wp2
    go_ret
    exact ⟨by simp [isLet, h1, h2], rfl⟩

theorem name_any (l : List Int) (hA : AllB l) (w : World) : Calls Try.prog 36 #[.string (T l)] w fun e w' => e = .returned (.bool (nmB l)) ∧ w = w' := by
  have hsz := T_size l
  have HI := Lib.hid (index_at l hA)
  have h0 : (T l).toList.isEmpty = decide (l.length = 0) := by
    rw [T_toList]; cases l <;> rfl
  by_cases hlen : l.length = 0
  · have he : nmB l = false := by
      obtain rfl := List.eq_nil_of_length_eq_zero hlen
      rfl
    rw [he]
    rw [decide_eq_true hlen] at h0
    generalize T l = S at *
    clear HI
    go_enter Try.func36, Try.ntmps36
    go_wp2
    go_ret
    exact ⟨rfl, rfl⟩
  rw [decide_eq_false hlen] at h0
  by_cases h64 : 64 < l.length
  · have he : nmB l = false := by
      cases h : nmB l with
      | false => rfl
      | true => have := nmB_len h; omega
    rw [he]
    generalize T l = S at *
    clear HI
    go_enter Try.func36, Try.ntmps36
    go_wp2
    go_ret
    exact ⟨rfl, rfl⟩
  have HI0 : ∀ w, (Instr.index 9 (.string (T l)) (.int .i64 0)).run Try.prog w = .ok (.int .u8 (l.getD 0 0)) w := HI.out 0 (by omega)
  have HD := Lib.hid fun w => isDigit_any (l.getD 0 0) w
  cases hd : isDig (l.getD 0 0) with
  | true =>
    have he : nmB l = false := by unfold nmB; rw [hd]; simp
    rw [he]
    rw [hd] at HD
    clear HI hd
    generalize l.getD 0 0 = c0 at *
    generalize T l = S at *
    go_enter Try.func36, Try.ntmps36
    go_wp2_with (go_at_call 48; (with_reducible refine (HD.out _).mono ?_); rintro e w' ⟨rfl, rfl⟩)
    go_ret
    exact ⟨rfl, rfl⟩
  | false =>
    have HY := Lib.hid (fun h => nmB_yes (l := l) (by omega) (by omega) hd h)
    have HN := Lib.hid (fun j hj h => nmB_no (l := l) (j := j) hj h)
    rw [hd] at HD
    clear hd
    have HC := Lib.hid fun j => hA.at_ j
    generalize hL : l.length = len at *
    have HL := Lib.hid hL
    clear hL
    generalize hc : l.getD 0 0 = c0 at *
    clear hc
    generalize T l = S at *
    go_enter Try.func36, Try.ntmps36
    go_wp2_with (go_at_call 48; (with_reducible refine (HD.out _).mono ?_); rintro e w' ⟨rfl, rfl⟩)
    go_loop [18] (fun i => ∃ k : Nat, k ≤ len ∧ i = .int .i64 (k : Int) ∧ Hid (∀ j, j < k → okC (l.getD j 0) = true)) (fun i => len - (intOf i).toNat)
    case atStart => exact ⟨0, by omega, rfl, Lib.hid fun j hj => absurd hj (by omega)⟩
    case round =>
      obtain ⟨k, hk, rfl, hall⟩ := hrel
      rcases Nat.lt_or_ge k len with hlt | hge
      · have hidx := HI.out k (by omega)
        have hin : (k : Int) < (len : Int) := by omega
        have hk1 : k ≤ 64 := by omega
        have HDk := Lib.hid fun w => isDigit_any (l.getD k 0) w
        have HLk := Lib.hid fun w => isLetter_any (l.getD k 0) w
        obtain ⟨c1, c2⟩ := HC.out k
        have HNk := Lib.hid (HN.out k (by omega))
        have HKk := Lib.hid (fun (h : okC (l.getD k 0) = true) j (hj : j < k + 1) => (by
          rcases Nat.lt_or_ge j k with h1 | h1
          · exact hall.out j h1
          · obtain rfl : j = k := by omega
            exact h : okC (l.getD j 0) = true))
        clear hall
        generalize l.getD k 0 = c at *
        have hgo : okC c = true ∧ (isDig c = true ∨ isDig c = false ∧ isLet c = true ∨ isDig c = false ∧ isLet c = false ∧ c = 95) ∨ okC c = false ∧ isDig c = false ∧ isLet c = false ∧ c ≠ 95 := by
          unfold okC
          cases isDig c <;> cases isLet c <;> by_cases h3 : c = 95 <;> simp [h3]
        rcases hgo with ⟨hok, hd | ⟨hd, hl⟩ | ⟨hd, hl, rfl⟩⟩ | ⟨hok, hd, hl, h95⟩
        · rw [hd] at HDk
          clear hd
          have HKk := Lib.hid (HKk.out hok)
          clear HNk hok
          go_wp2_with (go_at_call 48; (with_reducible refine (HDk.out _).mono ?_); rintro e w' ⟨rfl, rfl⟩)
          go_round
          case rel => exact ⟨k + 1, by omega, by go_num, HKk⟩
          case measure => simp [intOf]; omega
        · rw [hd] at HDk
          rw [hl] at HLk
          clear hd hl
          have HKk := Lib.hid (HKk.out hok)
          clear HNk hok
          go_wp2_with (first | (go_at_call 48; (with_reducible refine (HDk.out _).mono ?_); rintro e w' ⟨rfl, rfl⟩) | (go_at_call 49; (with_reducible refine (HLk.out _).mono ?_); rintro e w' ⟨rfl, rfl⟩))
          go_round
          case rel => exact ⟨k + 1, by omega, by go_num, HKk⟩
          case measure => simp [intOf]; omega
        · rw [hd] at HDk
          rw [hl] at HLk
          clear hd hl
          have HKk := Lib.hid (HKk.out hok)
          clear HNk hok
          go_wp2_with (first | (go_at_call 48; (with_reducible refine (HDk.out _).mono ?_); rintro e w' ⟨rfl, rfl⟩) | (go_at_call 49; (with_reducible refine (HLk.out _).mono ?_); rintro e w' ⟨rfl, rfl⟩))
          go_round
          case rel => exact ⟨k + 1, by omega, by go_num, HKk⟩
          case measure => simp [intOf]; omega
        · rw [hd] at HDk
          rw [hl] at HLk
          clear hd hl
          have HNk := Lib.hid (HNk.out hok)
          clear HKk hok
          go_wp2_with (first | (go_at_call 48; (with_reducible refine (HDk.out _).mono ?_); rintro e w' ⟨rfl, rfl⟩) | (go_at_call 49; (with_reducible refine (HLk.out _).mono ?_); rintro e w' ⟨rfl, rfl⟩))
          go_ret
          exact ⟨ret_bool HNk.out.symm, rfl⟩
      · obtain rfl : k = len := by omega
        have HYk := Lib.hid (HY.out (fun j hj => hall.out j (by have := HL.out; omega)))
        clear hall
        go_wp2
        go_ret
        exact ⟨ret_bool HYk.out.symm, rfl⟩

/-! ## flaws -/
theorem flaw_any (n v : List Int) (hn : AllB n) (hv : AllB v) (w : World) :
    Calls Try.prog 50 #[pv n v] w fun e w' => e = .returned (.int .i64 (flawI n v)) ∧ w.alloc (box n v) = w' := by
  have hsz := T_size v
  have HN := Lib.hid fun w => name_any n hn w
  dsimp only [pv, box]
  have HF := Lib.hid (show flawI n v = if nmB n = true then (if 256 < v.length then 21 else 0) else 1 from rfl)
  generalize T n = S at *
  generalize T v = V at *
  generalize v.length = lv at *
  generalize flawI n v = F at *
  cases hnm : nmB n with
  | false =>
    rw [hnm] at HN HF
    have hF := HF.out
    simp at hF
    subst hF
    clear hnm
    go_enter Try.func50, Try.ntmps50
    go_wp2_with (go_at_call 36; (with_reducible refine (HN.out _).mono ?_); rintro e w' ⟨rfl, rfl⟩)
    go_ret
    exact ⟨rfl, rfl⟩
  | true =>
    rw [hnm] at HN HF
    clear hnm
    by_cases h : 256 < lv
    · have hF := HF.out
      simp [h] at hF
      subst hF
      clear HF
      go_enter Try.func50, Try.ntmps50
      go_wp2_with (go_at_call 36; (with_reducible refine (HN.out _).mono ?_); rintro e w' ⟨rfl, rfl⟩)
      go_ret
      exact ⟨rfl, rfl⟩
    · have hF := HF.out
      simp [h] at hF
      subst hF
      clear HF
      go_enter Try.func50, Try.ntmps50
      go_wp2_with (go_at_call 36; (with_reducible refine (HN.out _).mono ?_); rintro e w' ⟨rfl, rfl⟩)
      go_ret
      exact ⟨rfl, rfl⟩

end Go.Proofs.Ytpfkhcgeblihcaa.Fb

/-
  What Right, Join, Split, and the document's own, answer.
-/
namespace Go.Proofs.Ytpfkhcgeblihcaa.Fc
open Go.ChangeShapes Go.WideShapes Go.ChangeAt Go.RowKit
open Bytes8 Blk8 Fa Fb
set_option linter.unusedVariables false
set_option maxRecDepth 100000
set_option linter.unusedSimpArgs false

theorem add_run (a b : List Int) (h : a.length + b.length ≤ 1000000) (w : World) : (Op.stringOp .add (T a) (T b)).run Try.prog w = .ok (.string (T (a ++ b))) w := by
  rw [run_string_add_sum w _ _ (by rw [T_size, T_size]; omega), T_app]

def joinL (n v : List Int) : List Int := if flawI n v = 0 then pay n v else []
theorem joinL_all {n v : List Int} (hn : AllB n) (hv : AllB v) : AllB (joinL n v) := by
  unfold joinL; split
  · exact pay_all hn hv
  · intro x hx; cases hx
theorem flaw_len {n v : List Int} (h : flawI n v = 0) : n.length ≤ 64 ∧ v.length ≤ 256 := by
  unfold flawI at h
  by_cases hn : nmB n = true
  · rw [if_pos hn] at h
    have := (nmB_len hn).2
    by_cases hv : 256 < v.length
    · rw [if_pos hv] at h; cases h
    · omega
  · rw [if_neg hn] at h; cases h
def Joined (n v : List Int) (w : World) (e : Ending) (w' : World) : Prop := ∃ A c, e = .returned (.tuple #[.slice A (joinL n v).length c, .int .i64 (flawI n v)]) ∧ Bytes w' A (joinL n v) ∧ Grew w w'

end Go.Proofs.Ytpfkhcgeblihcaa.Fc

/-
  What Right, Join, Split, and the document's own, answer.
-/
namespace Go.Proofs.Ytpfkhcgeblihcaa.Fc
open Go.ChangeShapes Go.WideShapes Go.ChangeAt Go.RowKit
open Bytes8 Blk8 Fa Fb
set_option linter.unusedVariables false
set_option maxRecDepth 100000
set_option linter.unusedSimpArgs false

theorem payload_any (n v : List Int) (hmax : n.length + v.length ≤ 900000) (w : World) :
    Calls Try.prog 51 #[pv n v] w fun e w' => e = .returned (.string (T (pay n v))) ∧ w.alloc (box n v) = w' := by
  have h1 := add_run n [61] (by simp; omega)
  have h2 := add_run (n ++ [61]) v (by simp; omega)
  rw [← T_one] at h1
  have hp : pay n v = n ++ [61] ++ v := rfl
  rw [← hp] at h2
  dsimp only [pv, box] at *
  generalize T n = S at *
  generalize T v = V at *
  generalize T (n ++ [61]) = S1 at *
  generalize T (pay n v) = S2 at *
  clear hp
  go_enter Try.func51, Try.ntmps51
  go_wp2
  go_ret
  exact ⟨rfl, rfl⟩
/-! ## joining -/
theorem join_any (n v : List Int) (hn : AllB n) (hv : AllB v) (w : World) : Calls Try.prog 39 #[pv n v] w (Joined n v w) := by
  by_cases h : flawI n v = 0
  · have hL : joinL n v = pay n v := if_pos h
    have hlen := flaw_len h
    have HF := Lib.hid fun w => flaw_any n v hn hv w
    have HP := Lib.hid fun w => payload_any n v (by omega) w
    obtain ⟨cf, mk, hmk⟩ := text_conv (pay n v) (pay_all hn hv)
    have hcv := fun w => (hmk w).1
    have HB := Lib.hid fun w => (hmk w).2
    clear hmk
    unfold Joined
    rw [hL, h]
    rw [h] at HF
    dsimp only [pv, box] at *
    generalize T n = S at *
    generalize T v = V at *
    generalize T (pay n v) = P at *
    generalize pay n v = p at *
    generalize hpl : p.length = pl at *
    clear h hL hlen
    go_enter Try.func39, Try.ntmps39
    go_wp2_with (first | (go_at_call 50; (with_reducible refine (HF.out _).mono ?_); rintro e w' ⟨rfl, rfl⟩) | (go_at_call 51; (with_reducible refine (HP.out _).mono ?_); rintro e w' ⟨rfl, rfl⟩))
    go_ret2
    refine ⟨_, _, rfl, (HB.out _).1 _ (by simp), ?_⟩
    exact (((Grew.refl w).alloc _).alloc _).alloc _ |>.trans (HB.out _).2
  · have hL : joinL n v = [] := if_neg h
    have HF := Lib.hid fun w => flaw_any n v hn hv w
    have hG := (Grew.boxed w (box n v)).alloc (box n v)
    unfold Joined
    rw [hL]
    dsimp only [pv, box] at *
    generalize T n = S at *
    generalize T v = V at *
    generalize flawI n v = F at *
    have hne : (F == 0) = false := by simpa using h
    clear hL h
    go_enter Try.func39, Try.ntmps39
    go_wp2_with (go_at_call 50; (with_reducible refine (HF.out _).mono ?_); rintro e w' ⟨rfl, rfl⟩)
    go_ret2
    exact ⟨none, 0, rfl, Bytes.nil _ _, hG⟩

end Go.Proofs.Ytpfkhcgeblihcaa.Fc

/-
  The order of pairs: plain; what Less and compare answer.
-/
namespace Go.Proofs.Ytpfkhcgeblihcaa.Fo
open Go.ChangeShapes Go.WideShapes Go.ChangeAt Go.RowKit
open Bytes8 Blk8 Fa Fb Fc
set_option linter.unusedVariables false
set_option maxRecDepth 100000
set_option linter.unusedSimpArgs false

def lessP (n v m u : List Int) : Bool := ltL (pay n v) (pay m u)
end Go.Proofs.Ytpfkhcgeblihcaa.Fo
