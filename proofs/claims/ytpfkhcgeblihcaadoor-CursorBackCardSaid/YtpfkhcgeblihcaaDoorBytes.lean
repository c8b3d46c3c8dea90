/-
  Words for bytes in memory: bytes that can be read from an address on; a block of bytes that is known whole; what 'make' of bytes lays.
-/
import Derived.Test.YtpfkhcgeblihcaaDoorRows
import Derived.WalkKit
import Derived.ProofKit
import Derived.Below
import Derived.OpenShut
import Derived.Lib.Hide
import Derived.Outline
import Derived.Deep.OwnRows
import Derived.Laws.CopyOwn
import Derived.Laws.BytesArg
import Derived.Deep.Draws
namespace Go.Proofs.YtpfkhcgeblihcaaDoor.Bytes8
open Go.ChangeShapes Go.WideShapes Go.ChangeAt Go.RowKit
set_option linter.unusedVariables false
set_option maxRecDepth 100000

theorem ret_int {k : IntKind} {a b : Int} (h : a = b) : Ending.returned (.int k a) = .returned (.int k b) := by rw [h]
theorem ret_bool {a b : Bool} (h : a = b) : Ending.returned (.bool a) = .returned (.bool b) := by rw [h]
theorem ret_int_bool {k : IntKind} {a b : Int} {c : Bool} (h : a = b) : Ending.returned (.tuple #[.int k a, .bool c]) = .returned (.tuple #[.int k b, .bool c]) := by rw [h]

theorem ret_slice_bool {A : Option Addr} {a b c : Nat} {t : Bool} (h : a = b) : Ending.returned (.tuple #[.slice A a c, .bool t]) = .returned (.tuple #[.slice A b c, .bool t]) := by rw [h]

def AllB (l : List Int) : Prop := ∀ n ∈ l, 0 ≤ n ∧ n < 256
theorem AllB.sub {l m : List Int} (h : AllB l) (hs : ∀ x ∈ m, x ∈ l) : AllB m := fun n hn => h n (hs n hn)
theorem AllB.take {l : List Int} (h : AllB l) (k : Nat) : AllB (l.take k) := h.sub fun _ hx => List.mem_of_mem_take hx
theorem AllB.drop {l : List Int} (h : AllB l) (k : Nat) : AllB (l.drop k) := h.sub fun _ hx => List.mem_of_mem_drop hx
theorem AllB.app {l m : List Int} (h : AllB l) (k : AllB m) : AllB (l ++ m) := fun n hn => by
  rcases List.mem_append.1 hn with h1 | h1
  · exact h n h1
  · exact k n h1
theorem AllB.at_ {l : List Int} (h : AllB l) (i : Nat) : 0 ≤ l.getD i 0 ∧ l.getD i 0 < 256 := by
  by_cases hi : i < l.length
  · have := h l[i] (List.getElem_mem hi)
    simpa [List.getElem?_eq_getElem hi] using this
  · simp [List.getElem?_eq_none (by omega : l.length ≤ i)]
theorem AllB.zeros (n : Nat) : AllB (List.replicate n 0) := fun x hx => by
  have := (List.mem_replicate.1 hx).2; subst this; decide
theorem AllB.set {l : List Int} (h : AllB l) (i : Nat) {c : Int} (h0 : 0 ≤ c) (h1 : c < 256) : AllB (l.set i c) := fun n hn => by
  rcases List.mem_or_eq_of_mem_set hn with h2 | h2
  · exact h n h2
  · subst h2; exact ⟨h0, h1⟩

/-- So many bytes can be read from an address on (none: whatever the address). -/
def Bytes (w : World) (a : Option Addr) (l : List Int) : Prop :=
  AllB l ∧ ∀ i, i < l.length → ∃ b off, a = some ⟨b, off, none⟩ ∧ b < w.heap.size ∧ w.cell? ⟨b, off + i, none⟩ = some (.int .u8 (l.getD i 0))

theorem Bytes.spot {w : World} {a : Option Addr} {l : List Int} (h : Bytes w a l) (hl : 0 < l.length) :
    ∃ b off, a = some ⟨b, off, none⟩ ∧ b < w.heap.size ∧ ∀ i, i < l.length → w.cell? ⟨b, off + i, none⟩ = some (.int .u8 (l.getD i 0)) := by
  obtain ⟨b, off, e, hb, _⟩ := h.2 0 hl
  refine ⟨b, off, e, hb, fun i hi => ?_⟩
  obtain ⟨b', off', e', _, h2⟩ := h.2 i hi
  rw [e] at e'; simp at e'; obtain ⟨rfl, rfl⟩ := e'; exact h2
theorem Bytes.nil (w : World) (a : Option Addr) : Bytes w a [] := ⟨(fun _ h => by cases h), (fun i hi => absurd hi (by simp))⟩
theorem Bytes.below {w w' : World} {B : Nat} {a : Option Addr} {l : List Int} (h : Bytes w a l) (hb : Below B w w') (hB : w.heap.size ≤ B) : Bytes w' a l := by
  refine ⟨h.1, fun i hi => ?_⟩
  obtain ⟨b, off, e, h1, h2⟩ := h.2 i hi
  exact ⟨b, off, e, Nat.lt_of_lt_of_le h1 hb.size, (hb.cell (p := ⟨b, off + i, none⟩) (Nat.lt_of_lt_of_le h1 hB)).trans h2⟩

theorem add_none (b off j : Nat) : (⟨b, off, none⟩ : Addr).add j = ⟨b, off + j, none⟩ := by
  unfold Addr.add
  split <;> simp_all

/-- .. as the laws on copy and append ask it. -/
theorem Bytes.source {w : World} {a : Option Addr} {l : List Int} (h : Bytes w a l) (w2 : World) (hb2 : Below w.heap.size w w2) (hpos : 0 < l.length) :
    ∃ ad, a = some ad ∧ ∀ (j : Nat) (x : Int), l[j]? = some x → w2.cell? (ad.add j) = some (.int .u8 x) := by
  obtain ⟨b, off, rfl, hlt, hc⟩ := h.spot hpos
  refine ⟨_, rfl, fun j x hx => ?_⟩
  have hlj : j < l.length := by
    rcases Nat.lt_or_ge j l.length with h | h
    · exact h
    · rw [List.getElem?_eq_none h] at hx; cases hx
  rw [add_none, hb2.cell (p := ⟨b, off + j, none⟩) hlt, hc j hlj]
  simp [hx]

/-- A block is just these bytes, none frozen. -/
def Row (w : World) (g : Nat) (l : List Int) : Prop := w.heap[g]? = some (.cells (l.map (Value.int .u8)).toArray 5 (0, 0))

theorem Row.lt {w : World} {g : Nat} {l : List Int} (h : Row w g l) : g < w.heap.size := by
  rcases Nat.lt_or_ge g w.heap.size with hlt | hge
  · exact hlt
  · unfold Row at h; rw [Array.getElem?_eq_none hge] at h; cases h
theorem Row.cell {w : World} {g : Nat} {l : List Int} (h : Row w g l) {i : Nat} (hi : i < l.length) : w.cell? ⟨g, i, none⟩ = some (.int .u8 (l.getD i 0)) := by
  unfold Row at h
  simp [World.cell?, h, List.getElem?_eq_getElem hi]
theorem Row.frozen {w : World} {g : Nat} {l : List Int} (h : Row w g l) (i : Nat) : w.frozen? ⟨g, i, none⟩ = false := by
  unfold Row at h
  simp [World.frozen?, h]
theorem Row.bytes {w : World} {g : Nat} {l : List Int} (h : Row w g l) (hA : AllB l) : Bytes w (some ⟨g, 0, none⟩) l :=
  ⟨hA, fun i hi => ⟨g, 0, rfl, h.lt, by rw [Nat.zero_add]; exact h.cell hi⟩⟩
/-- .. from a place in it on, so many. -/
theorem Row.part {w : World} {g : Nat} {l : List Int} (h : Row w g l) (hA : AllB l) (o n : Nat) : Bytes w (some ⟨g, o, none⟩) ((l.drop o).take n) := by
  refine ⟨(hA.drop o).take n, fun i hi => ⟨g, o, rfl, h.lt, ?_⟩⟩
  have hi' : i < n ∧ o + i < l.length := by simp at hi; omega
  rw [h.cell hi'.2]
  simp [hi'.1]
theorem Row.new (w : World) (l : List Int) : Row (w.alloc (.cells (l.map (Value.int .u8)).toArray 5)) w.heap.size l := heap_alloc_new w _
theorem Row.drew {w : World} {g : Nat} {l : List Int} (h : Row w g l) : Row w.drew g l := h
theorem Row.alloc {w : World} {g : Nat} {l : List Int} (h : Row w g l) (o : Obj) : Row (w.alloc o) g l := (Below.heap_alloc w o g h.lt).trans h
theorem Row.set_ {w : World} {g : Nat} {l : List Int} (h : Row w g l) (i : Nat) (c : Int) : Row (w.setCell ⟨g, i, none⟩ (.int .u8 c)) g (l.set i c) := by
  unfold Row at h ⊢
  simp [World.setCell, Array.getElem?_modify, h, List.map_set]
theorem Row.far {w : World} {g : Nat} {l : List Int} (h : Row w g l) {p : Addr} (hp : g ≠ p.block) (u : Value) : Row (w.setCell p u) g l := (Below.heap_setCell w p u g hp).trans h
theorem Row.below {w w' : World} {B g : Nat} {l : List Int} (h : Row w g l) (hb : Below B w w') (hg : g < B) : Row w' g l := (hb.block g hg).trans h

theorem info8 : (Tryd.prog.info? 5).map (fun i => (i.zero, i.size, i.bytes)) = some (some (.int .u8 0), 1, 1) := by kernel_rfl

/-- 'make([]byte, n)' and its kin, n a variable: a new block of zeros. -/
theorem wpList_make_bytes (w : World) {ops : Array Oper} {rest : List Oper} {o : Oper} {a : Act} {Q : Exit → Act → World → Prop}
    (hg : o.guard = none) (l c : Operand) (hop : o.op = Op.makeSlice 53 l c)
    (kl kc : IntKind) (n : Nat) (L C : Int) (hl : a.eval l = .int kl L) (hc : a.eval c = .int kc C) (hL : L = n) (hC : C = n) (hbytes : n ≤ 281474976710656)
    (hK : ∀ w', Row w' w.heap.size (List.replicate n 0) → Below w.heap.size w w' → wpList Tryd.prog ops Q rest (a.put o.dst (.slice (some ⟨w.heap.size, 0, none⟩) n n)) w') :
    wpList Tryd.prog ops Q (o :: rest) a w := by
  subst hL; subst hC
  obtain ⟨i, hi, hzz⟩ := Option.map_eq_some_iff.1 info8
  simp only [Prod.mk.injEq] at hzz
  obtain ⟨hz, hs, hb⟩ := hzz
  refine wpList_make_row w hg l c 53 hop 5 i (.int .u8 0) Tryd.underlying53 hi hz hs rfl kl kc n hl hc (by rw [hb]; omega) (by omega) (hK _ ?_ ?_)
  · have e : madeCells #[Value.int .u8 0] n = ((List.replicate n (0 : Int)).map (Value.int .u8)).toArray := by
      apply Array.ext'
      rw [toList_madeCells_one]
      simp
    rw [e]
    exact Row.new w _
  · exact (Below.refl _ _).alloc (Nat.le_refl _) _
/-- 'string(b)' of bytes that can be read. -/
theorem Bytes.string {w : World} {a : Option Addr} {l : List Int} (h : Bytes w a l) (cap n : Nat) (hn : l.length = n) :
    (convert 53 9 (.slice a n cap)).run Tryd.prog w = .ok (.string (strOfNums l)) w := by
  subst hn
  by_cases h0 : 0 < l.length
  · obtain ⟨b, off, rfl, _, hc⟩ := h.spot h0
    exact run_convert_bytes_arg w 53 5 Tryd.underlying53 Tryd.underlying5 b off l.length cap l rfl hc 9 Tryd.underlying9
  · obtain rfl : l = [] := List.eq_nil_of_length_eq_zero (by omega)
    cases a with
    | none => exact run_convert_bytes_nil w 53 5 Tryd.underlying53 Tryd.underlying5 0 cap 9 Tryd.underlying9
    | some ad =>
      have hl := run_loadCells_list (P := Tryd.prog) w ad [] (fun j v hj => by simp at hj)
      rw [run_convert_bytes_string w 53 9 5 (some ad) ([] : List Int).length cap Tryd.underlying53 Tryd.underlying5 Tryd.underlying9]
      exact run_bytesToString w ad ([] : List Int).length cap [] hl
theorem Bytes.drew {w : World} {a : Option Addr} {l : List Int} (h : Bytes w a l) : Bytes w.drew a l := h
theorem Bytes.drewN {w : World} {a : Option Addr} {l : List Int} (h : Bytes w a l) (k : Nat) : Bytes (w.drewN k) a l := h

/-- A part of bytes that can be read, as a cut 'b[o:o+n]' makes it. -/
theorem Bytes.part {w : World} {a : Option Addr} {l : List Int} (h : Bytes w a l) (o n : Nat) (a' : Option Addr) (ha : ∀ b off, a = some ⟨b, off, none⟩ → 0 < n → o < l.length → a' = some ⟨b, off + o, none⟩) : Bytes w a' ((l.drop o).take n) := by
  refine ⟨(h.1.drop o).take n, fun i hi => ?_⟩
  have hi' : i < n ∧ o + i < l.length := by simp at hi; omega
  obtain ⟨b, off, e, hlt, hc⟩ := h.2 (o + i) hi'.2
  refine ⟨b, off + o, ha b off e (by omega) (by omega), hlt, ?_⟩
  rw [Nat.add_assoc, hc]
  simp [hi'.1]
end Go.Proofs.YtpfkhcgeblihcaaDoor.Bytes8
