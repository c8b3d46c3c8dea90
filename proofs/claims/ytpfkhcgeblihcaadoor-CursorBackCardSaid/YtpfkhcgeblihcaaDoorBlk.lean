/-
  Words for a block of memory that is known whole, whatever its cells; and small words on what became of the world.
-/
import Derived.Test.YtpfkhcgeblihcaaDoorBytes
import Derived.Deep.QuietTactic
import Derived.Deep.Matrix
import Derived.ChangeSlices
namespace Go.Proofs.YtpfkhcgeblihcaaDoor.Blk8
open Go.ChangeShapes Go.WideShapes Go.ChangeAt Go.RowKit
open Bytes8
set_option linter.unusedVariables false
set_option maxRecDepth 100000

/-- A block is just these cells. -/
def Blk (w : World) (g : Nat) (vs : List Value) (T : TypeId) : Prop := w.heap[g]? = some (.cells vs.toArray T (0, 0))
theorem Blk.lt {w : World} {g : Nat} {vs : List Value} {T : TypeId} (h : Blk w g vs T) : g < w.heap.size := by
  rcases Nat.lt_or_ge g w.heap.size with hlt | hge
  · exact hlt
  · unfold Blk at h; rw [Array.getElem?_eq_none hge] at h; cases h
theorem Blk.cell {w : World} {g : Nat} {vs : List Value} {T : TypeId} (h : Blk w g vs T) {i : Nat} {v : Value} (hi : vs[i]? = some v) : w.cell? ⟨g, i, none⟩ = some v := by
  unfold Blk at h
  simp [World.cell?, h, hi]
theorem Blk.frozen {w : World} {g : Nat} {vs : List Value} {T : TypeId} (h : Blk w g vs T) (i : Nat) : w.frozen? ⟨g, i, none⟩ = false := by
  unfold Blk at h
  simp [World.frozen?, h]
theorem Blk.new (w : World) (vs : List Value) (T : TypeId) : Blk (w.alloc (.cells vs.toArray T)) w.heap.size vs T := heap_alloc_new w _
theorem Blk.new_at (w : World) (vs : List Value) (T : TypeId) (g : Nat) (h : w.heap.size = g) : Blk (w.alloc (.cells vs.toArray T)) g vs T := h ▸ Blk.new w vs T
theorem Blk.below {w w' : World} {B g : Nat} {vs : List Value} {T : TypeId} (h : Blk w g vs T) (hb : Below B w w') (hg : g < B) : Blk w' g vs T := (hb.block g hg).trans h
theorem Blk.set_ {w : World} {g : Nat} {vs : List Value} {T : TypeId} (h : Blk w g vs T) (i : Nat) (v : Value) : Blk (w.setCell ⟨g, i, none⟩ v) g (vs.set i v) T := by
  unfold Blk at h ⊢
  simp [World.setCell, Array.getElem?_modify, h]
theorem Blk.far {w : World} {g : Nat} {vs : List Value} {T : TypeId} (h : Blk w g vs T) {p : Addr} (hp : g ≠ p.block) (u : Value) : Blk (w.setCell p u) g vs T := (Below.heap_setCell w p u g hp).trans h
theorem Blk.alloc {w : World} {g : Nat} {vs : List Value} {T : TypeId} (h : Blk w g vs T) (o : Obj) : Blk (w.alloc o) g vs T := (Below.heap_alloc w o g h.lt).trans h
theorem Blk.bytes {w : World} {g : Nat} {l : List Int} {T : TypeId} (h : Blk w g (l.map (Value.int .u8)) T) (hA : AllB l) : Bytes w (some ⟨g, 0, none⟩) l :=
  ⟨hA, fun i hi => ⟨g, 0, rfl, h.lt, by rw [Nat.zero_add]; exact h.cell (by simp [List.getElem?_eq_getElem hi])⟩⟩

/-- .. of bytes, whatever the block's type. -/
theorem Blk.new_bytes (w : World) (l : List Int) (T : TypeId) : Blk (w.alloc (.cells (l.map (Value.int .u8)).toArray T)) w.heap.size (l.map (Value.int .u8)) T := Blk.new w _ T

theorem below_drewN {B : Nat} {a w : World} (h : Below B a w) (n : Nat) : Below B a (w.drewN n) := ⟨h.os, h.tape, h.output, h.size, h.block⟩
theorem Blk.drew {w : World} {g : Nat} {vs : List Value} {T : TypeId} (h : Blk w g vs T) : Blk w.drew g vs T := h
theorem Blk.drewN {w : World} {g : Nat} {vs : List Value} {T : TypeId} (h : Blk w g vs T) (n : Nat) : Blk (w.drewN n) g vs T := h
theorem below_bytes {w w' : World} {A : Option Addr} {l : List Int} (h : Bytes w A l) (hb : Below w.heap.size w w') : Bytes w' A l := h.below hb (Nat.le_refl _)
/-- A callee that leaves the world as it was, inside a region that draws. -/
theorem quiet_kept {P : Program} {f : FuncId} {args : Array Value} {w : World} {n : Nat} {v : Value}
    (h : Calls P f args (w.drewN n) fun e w' => e = .returned v ∧ w.drewN n = w') : Calls P f args (w.drewN n) fun e w' => e = .returned v ∧ ∃ m, w' = w.drewN m :=
  h.mono fun _ _ hh => ⟨hh.1, n, hh.2.symm⟩

/-! ## what comes in -/
/-- WHAT THE WALK IS TOLD OF A SLICE OF INTEGERS THAT CAME IN, as the guide's shell hands it. -/
def IsRow (k : IntKind) (w : World) (a : Option Addr) (len cap : Nat) (zs : List Int) : Prop :=
  (a = none ∧ len = 0 ∧ cap = 0 ∧ zs = []) ∨
  ∃ x, a = some x ∧ len ≤ cap ∧ cap ≤ maxLen ∧ zs.length = cap ∧ (∀ i, i < zs.length → w.cell? (x.add i) = some (.int k (zs.getD i 0))) ∧ ∀ n ∈ zs, (Lit.int k n).wf = true

theorem bounds_of_cell {w : World} {p : Addr} {v : Value} (h : w.cell? p = some v) : p.block < w.heap.size := by
  rcases Nat.lt_or_ge p.block w.heap.size with hlt | hge
  · exact hlt
  · simp [World.cell?, Array.getElem?_eq_none hge] at h

theorem IsRow.bytes {w : World} {a : Option Addr} {len cap : Nat} {zs : List Int} (h : IsRow .u8 w a len cap zs) :
    Bytes w a (zs.take len) ∧ (zs.take len).length = len ∧ len ≤ cap ∧ cap ≤ maxLen ∧ (a = none → cap = 0) := by
  rcases h with ⟨rfl, rfl, rfl, rfl⟩ | ⟨x, rfl, hl, hm, hz, hcell, hwz⟩
  · exact ⟨Bytes.nil _ _, rfl, Nat.le_refl _, by decide, fun _ => rfl⟩
  · have hlen : (zs.take len).length = len := by simp; omega
    have hAll : AllB zs := fun n hn => by
      have := bounds_u8 (hwz n hn)
      omega
    refine ⟨⟨hAll.take len, fun i hi => ?_⟩, hlen, hl, hm, fun h => by cases h⟩
    rw [hlen] at hi
    have hc := hcell i (by omega)
    obtain ⟨b, off, spot⟩ := x
    have hspot : spot = none := by
      have h0 := hcell 0 (by omega)
      simpa [Addr.add] using World.cell?_spot h0
    subst hspot
    have hb := bounds_of_cell hc
    have e : (⟨b, off, none⟩ : Addr).add i = ⟨b, off + i, none⟩ := by
      unfold Addr.add
      split <;> simp_all
    rw [e] at hc hb
    refine ⟨b, off, rfl, hb, ?_⟩
    rw [hc]
    simp [hi]

theorem row_of_trod {H : Type} {enc : TypeId × Value → H} {P : Program} {w : World} {base : Nat} {held : Bool} {t e : TypeId} {k : IntKind} {a : Option Addr} {len cap : Nat} {d : DataW H} {p : List MemPlace} (ht : P.underlying t = some (.slice e)) (he : P.underlying e = some (.int k)) (hc : P.cellsOf e = 1)
    (h : DataW.Trod enc P w base (fun _ => true) held t (.slice a len cap) d p) : ∃ zs, IsRow k w a len cap zs := by
  obtain ⟨fuel, hf⟩ := h
  rcases open_ints ht he hc hf with ⟨hcs, _⟩ | ⟨x, l, c, zs, hcs, _, hl, hm, hz, _, hcell, hwz⟩
  · simp [Value.cells] at hcs
    obtain ⟨rfl, rfl, rfl⟩ := hcs
    exact ⟨[], .inl ⟨rfl, rfl, rfl, rfl⟩⟩
  · simp [Value.cells] at hcs
    obtain ⟨rfl, rfl, rfl⟩ := hcs
    exact ⟨zs, .inr ⟨_, rfl, hl, hm, by simpa using hz, hcell, hwz⟩⟩

/-- A slice of slices of integers that came in. -/
def IsRows (k : IntKind) (w : World) (a : Option Addr) (len cap : Nat) (A : Nat → Option Addr) (L C : Nat → Nat) (Z : Nat → List Int) : Prop :=
  (a = none ∧ len = 0 ∧ cap = 0) ∨
  ∃ x, a = some x ∧ len ≤ cap ∧ cap ≤ maxLen ∧ ∀ r, r < cap → w.cell? (x.add r) = some (.slice (A r) (L r) (C r)) ∧ IsRow k w (A r) (L r) (C r) (Z r)
theorem rows_of_trod {H : Type} {enc : TypeId × Value → H} {P : Program} {w : World} {base : Nat} {held : Bool} {t e q : TypeId} {k : IntKind} {a : Option Addr} {len cap : Nat} {d : DataW H} {p : List MemPlace} (ht : P.underlying t = some (.slice e)) (he : P.underlying e = some (.slice q)) (hq : P.underlying q = some (.int k)) (ce : P.cellsOf e = 1) (cq : P.cellsOf q = 1)
    (h : DataW.Trod enc P w base (fun _ => true) held t (.slice a len cap) d p) : ∃ A L C Z, IsRows k w a len cap A L C Z := by
  obtain ⟨fuel, hf⟩ := h
  rcases Go.Deep.open_int_rows ht he hq ce cq hf with ⟨hcs, _⟩ | ⟨x, l, c, A, L, C, Z, hcs, _, hl, hm, _, hr⟩
  · simp [Value.cells] at hcs
    obtain ⟨rfl, rfl, rfl⟩ := hcs
    exact ⟨fun _ => none, fun _ => 0, fun _ => 0, fun _ => [], .inl ⟨rfl, rfl, rfl⟩⟩
  · simp [Value.cells] at hcs
    obtain ⟨rfl, rfl, rfl⟩ := hcs
    refine ⟨A, L, C, Z, .inr ⟨_, rfl, hl, hm, fun r hrc => ?_⟩⟩
    obtain ⟨h1, h2, h3, h4, h5, h6, h7⟩ := hr r hrc
    refine ⟨h1, ?_⟩
    cases hA : A r with
    | none =>
      have := h6 hA
      refine .inl ⟨rfl, by omega, this, List.eq_nil_of_length_eq_zero (by omega)⟩
    | some a' => exact .inr ⟨a', rfl, h2, h3, h4, fun i hi => (h7 a' hA).2 i (by omega), h5⟩

/-! ## sixteen bytes by value -/
def idL (K : Nat → Int) : List Int := [K 0, K 1, K 2, K 3, K 4, K 5, K 6, K 7, K 8, K 9, K 10, K 11, K 12, K 13, K 14, K 15]
abbrev idV (K : Nat → Int) : Value := .agg #[.int .u8 (K 0), .int .u8 (K 1), .int .u8 (K 2), .int .u8 (K 3), .int .u8 (K 4), .int .u8 (K 5), .int .u8 (K 6), .int .u8 (K 7), .int .u8 (K 8), .int .u8 (K 9), .int .u8 (K 10), .int .u8 (K 11), .int .u8 (K 12), .int .u8 (K 13), .int .u8 (K 14), .int .u8 (K 15)]
abbrev idC (T : TypeId) (K : Nat → Int) : Obj := .cells #[.int .u8 (K 0), .int .u8 (K 1), .int .u8 (K 2), .int .u8 (K 3), .int .u8 (K 4), .int .u8 (K 5), .int .u8 (K 6), .int .u8 (K 7), .int .u8 (K 8), .int .u8 (K 9), .int .u8 (K 10), .int .u8 (K 11), .int .u8 (K 12), .int .u8 (K 13), .int .u8 (K 14), .int .u8 (K 15)] T
def IdOk (K : Nat → Int) : Prop := ∀ i, 0 ≤ K i ∧ K i < 256
theorem idL_all {K : Nat → Int} (h : IdOk K) : AllB (idL K) := fun n hn => by
  simp only [idL, List.mem_cons, List.not_mem_nil, or_false] at hn
  rcases hn with h1 | h1 | h1 | h1 | h1 | h1 | h1 | h1 | h1 | h1 | h1 | h1 | h1 | h1 | h1 | h1 <;> (rw [h1]; exact h _)
theorem id_boxed (T : TypeId) (K : Nat → Int) (h : IdOk K) (w : World) : Bytes (w.alloc (idC T K)) (some ⟨w.heap.size, 0, none⟩) (idL K) := (Blk.new w ((idL K).map (Value.int .u8)) T).bytes (idL_all h)

theorem id_of_trod {H : Type} {enc : TypeId × Value → H} {P : Program} {w : World} {base b0 : Nat} {held : Bool} {r : Reach} {spare : Nat → Bool} {t e : TypeId} {v : Value} {d : DataW H} {p : List MemPlace} (ht : P.underlying t = some (.array 16 e)) (he : P.underlying e = some (.int .u8)) (ct : P.cellsOf t = 16) (ce : P.cellsOf e = 1)
    (hv : Value.okWide P w r b0 t v) (h : DataW.Trod enc P w base spare held t v d p) : ∃ K, v = idV K ∧ IdOk K := by
  simp only [Value.okWide, ht] at hv
  obtain ⟨cs, rfl, hsz, _⟩ := hv
  obtain ⟨l⟩ := cs
  rw [ct] at hsz
  obtain ⟨fuel, hf⟩ := h
  obtain ⟨xs, m, _, _, _, hlen, hel⟩ := DataW.trod_array ht hf
  have each : ∀ i, i < 16 → ∃ n, l[i]? = some (.int .u8 n) ∧ 0 ≤ n ∧ n < 256 := by
    intro i hi
    have h1 := hel i hi
    have hx : xs[i]? = some (xs[i]'(by omega)) := List.getElem?_eq_getElem (by omega)
    rw [hx, ce] at h1
    obtain ⟨n, hn, _, hw⟩ := DataW.trod_int he h1
    have hb := bounds_u8 hw
    refine ⟨n, ?_, by omega, by omega⟩
    have hil : i < l.length := by simpa using (show i < l.toArray.size by rw [hsz]; exact hi)
    simp only [Value.cells, Nat.mul_one] at hn
    have h2 : (l.drop i).take 1 = [l[i]] := by rw [List.drop_eq_getElem_cons hil]; rfl
    rw [h2] at hn
    injection hn with hn
    rw [List.getElem?_eq_getElem hil, hn]
  have hch : ∃ K : Nat → Int, ∀ i, i < 16 → l[i]? = some (.int .u8 (K i)) ∧ 0 ≤ K i ∧ K i < 256 :=
    ⟨fun i => if hi : i < 16 then (each i hi).choose else 0, fun i hi => by simp only [dif_pos hi]; exact (each i hi).choose_spec⟩
  obtain ⟨K, hK⟩ := hch
  refine ⟨fun i => if i < 16 then K i else 0, ?_, fun i => ?_⟩
  · have hl : l.length = 16 := by simpa using hsz
    clear each hel hf
    revert hK
    match l, hl with
    | [c0, c1, c2, c3, c4, c5, c6, c7, c8, c9, c10, c11, c12, c13, c14, c15], _ =>
      intro hK
      have q : ∀ i, (hi : i < 16) → [c0, c1, c2, c3, c4, c5, c6, c7, c8, c9, c10, c11, c12, c13, c14, c15][i]? = some (.int .u8 (K i)) := fun i hi => (hK i hi).1
      have q0 := q 0 (by decide); have q1 := q 1 (by decide); have q2 := q 2 (by decide); have q3 := q 3 (by decide); have q4 := q 4 (by decide); have q5 := q 5 (by decide); have q6 := q 6 (by decide); have q7 := q 7 (by decide)
      have q8 := q 8 (by decide); have q9 := q 9 (by decide); have q10 := q 10 (by decide); have q11 := q 11 (by decide); have q12 := q 12 (by decide); have q13 := q 13 (by decide); have q14 := q 14 (by decide); have q15 := q 15 (by decide)
      simp at q0 q1 q2 q3 q4 q5 q6 q7 q8 q9 q10 q11 q12 q13 q14 q15
      subst q0 q1 q2 q3 q4 q5 q6 q7 q8 q9 q10 q11 q12 q13 q14 q15
      rfl
  · by_cases hi : i < 16
    · simp only [if_pos hi]; exact (hK i hi).2
    · simp [if_neg hi]
end Go.Proofs.YtpfkhcgeblihcaaDoor.Blk8
