/-
  Words for a slice of whatever elements that a call gathers by append; and for a part of a slice, cut by 's[lo:hi]'.
-/
import Derived.Test.YtekmbgcijkdkfaaOwn
import Derived.Test.YtekmbgcijkdkfaaBlk
import Derived.Laws.Slices
namespace Go.Proofs.Ytekmbgcijkdkfaa.OwnE
open Go.ChangeShapes Go.WideShapes Go.ChangeAt Go.RowKit
open Bytes8 Blk8 Own8
set_option linter.unusedVariables false
set_option maxRecDepth 100000

/-- What is to be known of an element's type E and of its slice's type S. -/
structure Elt (E S : TypeId) (size bytes : Nat) (z : Value) : Prop where
  under : Try.prog.underlying S = some (.slice E)
  info : (Try.prog.info? E).map (fun i => (i.zero, i.size, i.bytes)) = some (some z, size, bytes)
  zero : z.cells.size = size
  pos : 0 < size

/-- The slice value '.slice A n c' is the call's own: its cells are xs, in a block from base on, or it is nil. -/
def OwnE (E : TypeId) (size : Nat) (w : World) (base : Nat) (A : Option Addr) (n c : Nat) (xs : List Value) : Prop :=
  base ≤ w.heap.size ∧ w.ownsRow base E size (.slice A n c) n xs

variable {E : TypeId} {size : Nat}
theorem OwnE.nil (w : World) (base : Nat) (h : base ≤ w.heap.size) : OwnE E size w base none 0 0 [] := ⟨h, World.ownsRow_nil _ _ _ _⟩
theorem OwnE.len {w : World} {base : Nat} {A : Option Addr} {n c : Nat} {xs : List Value} (h : OwnE E size w base A n c xs) : xs.length = n * size := h.2.1
theorem OwnE.lt {w : World} {base : Nat} {A : Option Addr} {n c : Nat} {xs : List Value} (h : OwnE E size w base A n c xs) : ∀ k, (Value.slice A n c).ownBlock = some k → base ≤ k ∧ k < w.heap.size := h.2.lt
theorem OwnE.kept {w w' : World} {base B : Nat} {A : Option Addr} {n c : Nat} {xs : List Value} (h : OwnE E size w base A n c xs) (hb : Below B w w') (hB : w.heap.size ≤ B) : OwnE E size w' base A n c xs := by
  refine ⟨Nat.le_trans h.1 hb.size, h.2.1, ?_⟩
  rcases h.2.2 with h1 | ⟨g, cap, cur, h1, h2, h3, h4⟩
  · exact .inl h1
  · refine .inr ⟨g, cap, cur, h1, h2, ?_, h4⟩
    have hlt : g < w.heap.size := by
      rcases Nat.lt_or_ge g w.heap.size with h | h
      · exact h
      · rw [Array.getElem?_eq_none h] at h3; cases h3
    rw [hb.block g (by omega)]; exact h3
theorem OwnE.alloc {w : World} {base : Nat} {A : Option Addr} {n c : Nat} {xs : List Value} (h : OwnE E size w base A n c xs) (o : Obj) : OwnE E size (w.alloc o) base A n c xs := h.kept ((Below.refl _ _).alloc (Nat.le_refl _) o) (Nat.le_refl _)
theorem OwnE.drew {w : World} {base : Nat} {A : Option Addr} {n c : Nat} {xs : List Value} (h : OwnE E size w base A n c xs) : OwnE E size w.drew base A n c xs := h
/-- A cell of it. -/
theorem OwnE.cell {w : World} {base : Nat} {A : Option Addr} {n c : Nat} {xs : List Value} (h : OwnE E size w base A n c xs) {i : Nat} (hi : i < xs.length) :
    ∃ g, A = some ⟨g, 0, none⟩ ∧ base ≤ g ∧ g < w.heap.size ∧ w.cell? ⟨g, i, none⟩ = xs[i]? := by
  obtain ⟨hb, ho⟩ := h
  rcases ho.2 with ⟨he, h0⟩ | ⟨g, cap, cur, hv, hbg, hg, _⟩
  · have := ho.1; subst h0; rw [Nat.zero_mul] at this; omega
  · injection hv with h1 h2 h3
    subst h1
    have hlt : g < w.heap.size := by
      rcases Nat.lt_or_ge g w.heap.size with h | h
      · exact h
      · rw [Array.getElem?_eq_none h] at hg; cases hg
    refine ⟨g, rfl, hbg, hlt, ?_⟩
    have := ho.cells (g := g) rfl i xs[i] (List.getElem?_eq_getElem hi)
    rw [add_none, Nat.zero_add] at this
    rw [this, List.getElem?_eq_getElem hi]

theorem run_append_elt {S : TypeId} {bytes : Nat} {z : Value} (he : Elt E S size bytes z) (w : World) (ty : TypeId) (base : Nat) (A : Option Addr) (n c : Nat) (xs : List Value) (ho : OwnE E size w base A n c xs) (ad : Addr) (m c2 : Nat) (news : List Value) (hl : news.length = m * size)
    (hnews : ∀ j u, news[j]? = some u → w.cell? (ad.add j) = some u) (h1 : ∀ u ∈ news, u.oneCell' = true) (h63 : n + m ≤ 4611686018427387904) (hbytes : (n + m) * bytes ≤ 140737488355328) :
    ∃ A' c' w', (Builtin.append_ #[S, S] ty #[.slice A n c, .slice (some ad) m c2]).run Try.prog w = .ok (.slice A' (n + m) c') w' ∧ OwnE E size w' base A' (n + m) c' (xs ++ news) ∧ Below base w w' := by
  obtain ⟨i, hi, hzz⟩ := Option.map_eq_some_iff.1 he.info
  simp only [Prod.mk.injEq] at hzz
  obtain ⟨hz, hs, hby⟩ := hzz
  obtain ⟨v', w', hr, h2, h3, _⟩ := run_append_own (P := Try.prog) w base S ty E i z size bytes he.under hi hz hs hby he.zero he.pos _ n xs ho.2 ad m c2 news hl hnews h1 (by unfold maxLen; omega) hbytes ho.1
  have hbel := below_grown h3 ho.1 (fun k hk => (ho.lt k hk).1)
  rcases h2.2 with ⟨rfl, h0⟩ | ⟨g, cap, cur, rfl, _⟩
  · rw [h0] at h2 ⊢
    exact ⟨none, 0, w', hr, ⟨Nat.le_trans ho.1 hbel.size, h2⟩, hbel⟩
  · exact ⟨_, _, w', hr, ⟨Nat.le_trans ho.1 hbel.size, h2⟩, hbel⟩

theorem wp_append_elt {S : TypeId} {bytes : Nat} {z : Value} (he : Elt E S size bytes z) {w : World} {o : Oper} {a : Act} {K : Act → World → Prop} {Q : Exit → Act → World → Prop} (s x : Operand)
    (hop : o.op = .call { callee := .builtin .append, args := #[s, x], argTypes := #[S, S] })
    (base : Nat) (A : Option Addr) (n c : Nat) (xs : List Value) (hs : a.eval s = .slice A n c) (ho : OwnE E size w base A n c xs) (ad : Addr) (m c2 : Nat) (news : List Value) (hx : a.eval x = .slice (some ad) m c2) (hl : news.length = m * size)
    (hnews : ∀ j u, news[j]? = some u → w.cell? (ad.add j) = some u) (h1 : ∀ u ∈ news, u.oneCell' = true) (h63 : n + m ≤ 4611686018427387904) (hbytes : (n + m) * bytes ≤ 140737488355328)
    (h : ∀ A' c' w', OwnE E size w' base A' (n + m) c' (xs ++ news) → Below base w w' → K (a.put o.dst (.slice A' (n + m) c')) w') : o.wp Try.prog a w K Q := by
  obtain ⟨A', c', w', hr, h2, h3⟩ := run_append_elt he w o.type base A n c xs ho ad m c2 news hl hnews h1 h63 hbytes
  unfold Oper.wp execOp
  simp only [hop, resolve, invoke, builtin, Sem.run_bind, Sem.run_pure, Result.andThen_ok, List.map_toArray, List.map_cons, List.map_nil, hs, hx, hr]
  exact h A' c' w' h2 h3

theorem wpList_append_elt {S : TypeId} {bytes : Nat} {z : Value} (he : Elt E S size bytes z) {w : World} {ops : Array Oper} {rest : List Oper} {o : Oper} {a : Act} {Q : Exit → Act → World → Prop} (hgd : o.guard = none) (s x : Operand)
    (hop : o.op = .call { callee := .builtin .append, args := #[s, x], argTypes := #[S, S] })
    (base : Nat) (A : Option Addr) (n c : Nat) (xs : List Value) (hs : a.eval s = .slice A n c) (ho : OwnE E size w base A n c xs) (ad : Addr) (m c2 : Nat) (news : List Value) (hx : a.eval x = .slice (some ad) m c2) (hl : news.length = m * size)
    (hnews : ∀ j u, news[j]? = some u → w.cell? (ad.add j) = some u) (h1 : ∀ u ∈ news, u.oneCell' = true) (h63 : n + m ≤ 4611686018427387904) (hbytes : (n + m) * bytes ≤ 140737488355328)
    (h : ∀ A' c' w', OwnE E size w' base A' (n + m) c' (xs ++ news) → Below base w w' → wpList Try.prog ops Q rest (a.put o.dst (.slice A' (n + m) c')) w') : wpList Try.prog ops Q (o :: rest) a w :=
  wpList_plain hgd fun _ hK => wp_append_elt he s x hop base A n c xs hs ho ad m c2 news hx hl hnews h1 h63 hbytes fun A' c' w' h1 h2 => hK _ _ (h A' c' w' h1 h2)

theorem step_append_elt {S : TypeId} {bytes : Nat} {z : Value} (he : Elt E S size bytes z) {w : World} {ops : Array Oper} {o : Oper} {a : Act} {K : Act → World → Prop} {Q : Exit → Act → World → Prop} {F : Prop} (hgd : o.guard = none) (s x : Operand)
    (hop : o.op = .call { callee := .builtin .append, args := #[s, x], argTypes := #[S, S] })
    (base : Nat) (A : Option Addr) (n c : Nat) (xs : List Value) (hs : a.eval s = .slice A n c) (ho : OwnE E size w base A n c xs) (ad : Addr) (m c2 : Nat) (news : List Value) (hx : a.eval x = .slice (some ad) m c2) (hl : news.length = m * size)
    (hnews : ∀ j u, news[j]? = some u → w.cell? (ad.add j) = some u) (h1 : ∀ u ∈ news, u.oneCell' = true) (h63 : n + m ≤ 4611686018427387904) (hbytes : (n + m) * bytes ≤ 140737488355328)
    (h : ∀ A' c' w', OwnE E size w' base A' (n + m) c' (xs ++ news) → Below base w w' → K (a.put o.dst (.slice A' (n + m) c')) w') :
    if Region.wanted o (yielded ops a.tmps) = true then Oper.wp Try.prog o a w K Q else F := by
  have hw : Region.wanted o (yielded ops a.tmps) = true := by simp [Region.wanted, hgd]
  rw [if_pos hw]
  exact wp_append_elt he s x hop base A n c xs hs ho ad m c2 news hx hl hnews h1 h63 hbytes h

/-- What stands in a block of just these cells, as the append asks it. -/
theorem Blk.news {w : World} {g : Nat} {vs : List Value} {T : TypeId} (h : Blk w g vs T) : ∀ j u, vs[j]? = some u → w.cell? ((⟨g, 0, none⟩ : Addr).add j) = some u := fun j u hj => by
  rw [add_none, Nat.zero_add]; exact h.cell hj

/-! ## a part of a slice -/
/-- Where 's[lo:]' lies. -/
def cutA (A : Option Addr) (cap lo : Nat) : Option Addr := if cap = lo then A else A.map (·.add lo)
theorem cutA_some (b off cap lo : Nat) : cutA (some ⟨b, off, none⟩) cap lo = if cap = lo then some ⟨b, off, none⟩ else some ⟨b, off + lo, none⟩ := by
  unfold cutA
  split <;> simp [add_none]
theorem Bytes.cut {w : World} {A : Option Addr} {l : List Int} (h : Bytes w A l) (cap lo n : Nat) (hcap : l.length ≤ cap) : Bytes w (cutA A cap lo) ((l.drop lo).take n) := by
  refine h.part lo n _ fun b off e hn hlo => ?_
  subst e
  rw [cutA_some, if_neg (by omega)]
theorem sliced_one (t : TypeId) (A : Option Addr) (len cap lo hi : Nat) (w : World) (hs : (sizeOf (Try.prog.elem t)).run Try.prog w = .ok 1 w) (ht : Try.prog.underlying t = some (.slice (Try.prog.elem t))) (h1 : lo ≤ hi) (h2 : hi ≤ cap) :
    (Instr.slice t (.slice A len cap) (some (.int .i64 lo)) (some (.int .i64 hi)) none).run Try.prog w = .ok (.slice (cutA A cap lo) (hi - lo) (cap - lo)) w := by
  rw [run_slice_lh w t A len cap ht .i64 .i64 lo hi (by omega) (by omega) (by omega), hs]
  simp [Result.andThen, sliced, cutA]
theorem sliced_low (t : TypeId) (A : Option Addr) (len cap lo : Nat) (w : World) (hs : (sizeOf (Try.prog.elem t)).run Try.prog w = .ok 1 w) (ht : Try.prog.underlying t = some (.slice (Try.prog.elem t))) (h1 : lo ≤ len) :
    (Instr.slice t (.slice A len cap) (some (.int .i64 lo)) none none).run Try.prog w = .ok (.slice (cutA A cap lo) (len - lo) (cap - lo)) w := by
  rw [run_slice_l w t A len cap ht .i64 lo (by omega) (by omega), hs]
  simp [Result.andThen, sliced, cutA]
theorem elem8 : Try.prog.elem 35 = 5 := by kernel_rfl
theorem sizeof8 (w : World) : (sizeOf 5).run Try.prog w = .ok 1 w := by
  obtain ⟨i, hi, hzz⟩ := Option.map_eq_some_iff.1 info8
  simp only [Prod.mk.injEq] at hzz
  simp [sizeOf, typeInfo, hi, hzz]
/-- 's[lo:hi]', 's[lo:]' of bytes: laid ahead of a walk it keeps the place under one name. -/
theorem cut_lh (A : Option Addr) (len cap lo hi : Nat) (h1 : lo ≤ hi) (h2 : hi ≤ cap) (w : World) :
    (Instr.slice 35 (.slice A len cap) (some (.int .i64 lo)) (some (.int .i64 hi)) none).run Try.prog w = .ok (.slice (cutA A cap lo) (hi - lo) (cap - lo)) w :=
  sliced_one _ A len cap lo hi w (by rw [elem8]; exact sizeof8 w) (by rw [elem8]; exact Try.underlying35) h1 h2
theorem cut_l (A : Option Addr) (len cap lo : Nat) (h1 : lo ≤ len) (w : World) :
    (Instr.slice 35 (.slice A len cap) (some (.int .i64 lo)) none none).run Try.prog w = .ok (.slice (cutA A cap lo) (len - lo) (cap - lo)) w :=
  sliced_low _ A len cap lo w (by rw [elem8]; exact sizeof8 w) (by rw [elem8]; exact Try.underlying35) h1
end Go.Proofs.Ytekmbgcijkdkfaa.OwnE
