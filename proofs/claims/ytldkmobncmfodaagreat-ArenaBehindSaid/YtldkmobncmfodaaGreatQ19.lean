/-
  Texts beneath the proof, one behind the other.
-/
import Derived.Deep.MidRow
import Derived.Laws.Tables
import Derived.DeepKeys
import Derived.DeepKeys4
import Derived.Test.YtldkmobncmfodaaGreatQ18
import Derived.Test.YtldkmobncmfodaaGreatQ7
import Derived.Test.YtldkmobncmfodaaGreatQ1

/-
  What the program's ReadArray and ReadTable tell.
-/
namespace Go.Proofs.YtldkmobncmfodaaGreat.Yh
open Go.ChangeShapes Go.WideShapes Go.ChangeAt Go.RowKit
open Bytes8 Blk8 Own8 OwnM OwnE OwnA LeA LeAl LeNum LeB LeP RefA RefB Ob Oc Od Oe Og Oi Rows2 Kf Yc Yp Yd Ye Yf Yg
set_option linter.unusedVariables false
set_option linter.unusedSimpArgs false
set_option maxRecDepth 100000



/-- A block of numbers that is being filled. -/
def Part1 (w : World) (g m k : Nat) (f : Nat → Int) (T : TypeId) : Prop :=
  ∃ vs : List Value, Blk w g vs T ∧ vs.length = m ∧ ∀ i, i < k → vs[i]? = some (.int .u64 (f i))
theorem Part1.new (w : World) (m : Nat) (f : Nat → Int) (T : TypeId) (g : Nat) (hg : w.heap.size = g) : Part1 (w.alloc (.cells (Array.replicate m (Value.int .u64 0)) T)) g m 0 f T :=
  ⟨List.replicate m (.int .u64 0), by subst hg; have := Blk.new w (List.replicate m (.int .u64 0)) T; simpa using this, by simp, fun i hi => absurd hi (by omega)⟩
theorem Part1.cells {w : World} {g m k : Nat} {f : Nat → Int} {T : TypeId} (hp : Part1 w g m k f T) (hk : k < m) : (∃ u, w.cell? ⟨g, k, none⟩ = some u) ∧ w.frozen? ⟨g, k, none⟩ = false := by
  obtain ⟨vs, hb, hl, _⟩ := hp
  exact ⟨⟨vs[k], hb.cell (List.getElem?_eq_getElem (by omega))⟩, hb.frozen _⟩
theorem Part1.step {w : World} {g m k : Nat} {f : Nat → Int} {T : TypeId} (hp : Part1 w g m k f T) (hk : k < m) : Part1 (w.setCell ⟨g, k, none⟩ (.int .u64 (f k))) g m (k + 1) f T := by
  obtain ⟨vs, hb, hl, hv⟩ := hp
  refine ⟨_, hb.set_ k _, by simp [hl], fun i hi => ?_⟩
  rcases Nat.lt_or_ge i k with h1 | h1
  · rw [List.getElem?_set, if_neg (by omega)]
    exact hv i h1
  · obtain rfl : i = k := by omega
    rw [List.getElem?_set, if_pos rfl, if_pos (by omega)]
theorem Part1.lt {w : World} {g m k : Nat} {f : Nat → Int} {T : TypeId} (hp : Part1 w g m k f T) : g < w.heap.size := by
  obtain ⟨vs, hb, _⟩ := hp
  exact hb.lt
theorem Part1.blk {w w' : World} {g m k : Nat} {f : Nat → Int} {T : TypeId} (hp : Part1 w g m k f T) (h : w'.heap[g]? = w.heap[g]?) : Part1 w' g m k f T := by
  obtain ⟨vs, hb, h2⟩ := hp
  exact ⟨vs, h.trans hb, h2⟩
theorem Part1.old {w : World} {g m k : Nat} {f : Nat → Int} {T : TypeId} (hp : Part1 w g m k f T) (o : Obj) : Part1 (w.alloc o).drew g m k f T := hp.blk (Below.heap_alloc w o g hp.lt)
theorem Part1.ints {w : World} {g m : Nat} {f : Nat → Int} {T : TypeId} (hp : Part1 w g m m f T) (hf : ∀ i, 0 ≤ f i ∧ f i ≤ 18446744073709551615) : InInts .u64 w (some ⟨g, 0, none⟩) m f := fun i hi => by
  obtain ⟨vs, hb, hl, hv⟩ := hp
  refine ⟨g, 0, rfl, hb.lt, by rw [Nat.zero_add]; exact hb.cell (hv i hi), ?_⟩
  have := hf i
  simp [Lit.wf, IntKind.min, IntKind.max, IntKind.signed, IntKind.bits]
  omega
theorem InInts.setRow {k : IntKind} {w : World} {a : Option Addr} {n : Nat} {f : Nat → Int} (hi : InInts k w a n f) {g : Nat} (hg : ∀ b off, a = some ⟨b, off, none⟩ → b ≠ g) (cs : Array Value) : InInts k (w.setRow g cs) a n f := fun i hx => by
  obtain ⟨b, off, e, h1, h2, h3⟩ := hi i hx
  exact ⟨b, off, e, by simpa using h1, (cell_setRow_other w g cs _ (hg b off e)).trans h2, h3⟩

end Go.Proofs.YtldkmobncmfodaaGreat.Yh

/-
  Sixteen bytes compared; a load from the middle of a row under a guard.
-/
namespace Go.Proofs.YtldkmobncmfodaaGreat.Yq
open Go.ChangeShapes Go.WideShapes Go.ChangeAt Go.RowKit
open Bytes8 Blk8 Own8 OwnM OwnE OwnA Rows2 Ob Yc Yp Yd Yg
set_option linter.unusedVariables false
set_option linter.unusedSimpArgs false
set_option maxRecDepth 100000

theorem idInfo : (Tryz.prog.info? 50).map (·.size) = some 16 := by kernel_rfl
abbrev k16 (K : Nat → Int) : List Value := [.int .u8 (K 0), .int .u8 (K 1), .int .u8 (K 2), .int .u8 (K 3), .int .u8 (K 4), .int .u8 (K 5), .int .u8 (K 6), .int .u8 (K 7), .int .u8 (K 8), .int .u8 (K 9), .int .u8 (K 10), .int .u8 (K 11), .int .u8 (K 12), .int .u8 (K 13), .int .u8 (K 14), .int .u8 (K 15)]
theorem id_lits (K : Nat → Int) (hK : IdOk K) : Tryz.prog.keyLits 2 50 [.int .u8 (K 0), .int .u8 (K 1), .int .u8 (K 2), .int .u8 (K 3), .int .u8 (K 4), .int .u8 (K 5), .int .u8 (K 6), .int .u8 (K 7), .int .u8 (K 8), .int .u8 (K 9), .int .u8 (K 10), .int .u8 (K 11), .int .u8 (K 12), .int .u8 (K 13), .int .u8 (K 14), .int .u8 (K 15)] = some ((idL K).map (Lit.int .u8)) := by
  have wfi : ∀ i, (Lit.int .u8 (K i)).wf = true := fun i => by
    have := hK i
    simp [Lit.wf, IntKind.min, IntKind.max, IntKind.signed, IntKind.bits]
    omega
  have c1 : Tryz.prog.cellsOf 50 = 16 := by kernel_rfl
  have c2 : Tryz.prog.cellsOf 5 = 1 := by kernel_rfl
  have hr : List.range 16 = [0, 1, 2, 3, 4, 5, 6, 7, 8, 9, 10, 11, 12, 13, 14, 15] := rfl
  simp [Program.keyLits, Tryz.underlying50, Tryz.underlying5, c1, c2, hr, wfi, idL]
theorem ent_range {w : World} {g : Nat} {T : TypeId} {s r m x : Int} {K : Nat → Int} {A : Option Addr} {n c : Nat} (h : Blk w g (entL s r m K x A n c) T) : w.rangeAt g 3 (k16 K) := fun j v hj => by
  have hlt : j < 16 := by
    have := (List.getElem?_eq_some_iff.1 hj).1
    simpa using this
  refine h.cell ?_
  rw [← hj]
  unfold entL
  rcases j with _ | _ | _ | _ | _ | _ | _ | _ | _ | _ | _ | _ | _ | _ | _ | _ | j
  all_goals first | rfl | omega
theorem wpList_load_mid_want {P : Program} {ops : Array Oper} {rest : List Oper} {op : Oper} {a : Act} {w : World} {Q : Exit → Act → World → Prop} (hw : Region.wanted op (yielded ops a.tmps) = true) (ty : TypeId) (x : Operand) (ho : op.op = .load ty x)
    (b o : Nat) (hx : a.eval x = .pointer (some ⟨b, o, none⟩)) (cs : List Value) (d : TypeDesc) (hc : w.rangeAt b o cs)
    (hu : P.underlying ty = some d) (hd : d.isRow = true) (hi : (P.info? ty).map (·.size) = some cs.length)
    (h : wpList P ops Q rest (a.put op.dst (.agg cs.toArray)) w) : wpList P ops Q (op :: rest) a w :=
  BigFrame.wpList_want hw fun _ hK => wp_load_mid ty x ho b o hx cs d hc hu hd hi (hK _ _ h)

end Go.Proofs.YtldkmobncmfodaaGreat.Yq

/-
  What was put is read: arrays, tables, entries: plain.
-/
namespace Go.Proofs.YtldkmobncmfodaaGreat.Yj
open Go.ChangeShapes Go.WideShapes Go.ChangeAt Go.RowKit
open Bytes8 Blk8 LeNum Ob Rows2 Yc Yp Yd Yg Yh
set_option linter.unusedVariables false
set_option linter.unusedSimpArgs false
set_option maxRecDepth 100000


theorem prs_at (f g : Nat → Int) (n i : Nat) (h : i < n) : (prs f g n)[i * 2]? = some (f i) ∧ (prs f g n)[i * 2 + 1]? = some (g i) := by
  induction n with
  | zero => omega
  | succ n ih =>
    have hl := prs_len f g n
    rw [prs_succ]
    rcases Nat.lt_or_ge i n with h1 | h1
    · rw [List.getElem?_append_left (by omega), List.getElem?_append_left (by omega)]
      exact ih h1
    · obtain rfl : i = n := by omega
      rw [List.getElem?_append_right (by omega), List.getElem?_append_right (by omega), show i * 2 - (prs f g i).length = 0 by omega, show i * 2 + 1 - (prs f g i).length = 1 by omega]
      exact ⟨rfl, rfl⟩
def Wd (f : Nat → Int) (n : Nat) : Prop := ∀ i, i < n → 0 ≤ f i ∧ f i ≤ 18446744073709551615
theorem nums_at (l m : List Int) (i j : Nat) (hj : j = 8 * i) (hi : i < l.length) (hb : 0 ≤ l.getD i 0 ∧ l.getD i 0 ≤ 18446744073709551615) : u8 (nums l ++ m) j = l.getD i 0 := by
  subst hj
  exact u8_nums l m i hi hb

/-! ## an array -/
theorem arr_len (x : Int) (f : Nat → Int) (n : Nat) : (arrB x (ints f n)).length = 8 + 8 * n := by
  unfold arrB
  rw [List.length_append, nums_len, nums_ints_len]; rfl
/-! ## a table -/
end Go.Proofs.YtldkmobncmfodaaGreat.Yj

/-
  Rows of numbers held against each other; slots that a statement gathers.
-/
namespace Go.Proofs.YtldkmobncmfodaaGreat.Yi
open Go.ChangeShapes Go.WideShapes Go.ChangeAt Go.RowKit
open Bytes8 Blk8 Own8 OwnM OwnE OwnA LeNum Ob Rows2 Dc Yc Yp Yd Yg Yh Yj
set_option linter.unusedVariables false
set_option linter.unusedSimpArgs false
set_option maxRecDepth 100000


def two (f g : Nat → Int) (k : Nat) : List Value := (prs f g k).map (Value.int .u64)
theorem own_in2 {E : TypeId} {w : World} {base c k : Nat} {A : Option Addr} {f g : Nat → Int} (h : OwnE E 2 w base A k c (two f g k)) (hf : Wd f k) (hg : Wd g k) : In2 w A k f g := fun i hi => by
  have hl : (two f g k).length = 2 * k := by unfold two; rw [List.length_map, prs_len]
  obtain ⟨p1, p2⟩ := prs_at f g k i hi
  obtain ⟨b, rfl, _, hlt, c1⟩ := h.cell (i := i * 2) (by omega)
  obtain ⟨b2, e2, _, _, c2⟩ := h.cell (i := i * 2 + 1) (by omega)
  simp at e2
  subst e2
  refine ⟨b, 0, rfl, hlt, ?_, ?_, hf i hi, hg i hi⟩
  · rw [Nat.zero_add, c1]; unfold two; rw [List.getElem?_map, p1]; rfl
  · rw [Nat.zero_add, c2]; unfold two; rw [List.getElem?_map, p2]; rfl
end Go.Proofs.YtldkmobncmfodaaGreat.Yi
