/-
  Words for bytes in memory: bytes that can be read from an address on; a block of bytes that is known whole; what 'make' of bytes lays.
-/
import Derived.Test.YtfofjnnjlnggjaaRows
import Derived.WalkKit
import Derived.ProofKit
import Derived.Below
import Derived.OpenShut
import Derived.Lib.Hide
import Derived.Outline
import Derived.Deep.OwnRows
import Derived.Laws.CopyOwn
namespace Go.Proofs.Ytfofjnnjlnggjaa.Bytes8
open Go.ChangeShapes Go.WideShapes Go.ChangeAt Go.RowKit

theorem ret_int {k : IntKind} {a b : Int} (h : a = b) : Ending.returned (.int k a) = .returned (.int k b) := by rw [h]
theorem ret_bool {a b : Bool} (h : a = b) : Ending.returned (.bool a) = .returned (.bool b) := by rw [h]
theorem ret_int_bool {k : IntKind} {a b : Int} {c : Bool} (h : a = b) : Ending.returned (.tuple #[.int k a, .bool c]) = .returned (.tuple #[.int k b, .bool c]) := by rw [h]

def AllB (l : List Int) : Prop := ∀ n ∈ l, 0 ≤ n ∧ n < 256
theorem AllB.sub {l m : List Int} (h : AllB l) (hs : ∀ x ∈ m, x ∈ l) : AllB m := fun n hn => h n (hs n hn)
theorem AllB.take {l : List Int} (h : AllB l) (k : Nat) : AllB (l.take k) := h.sub fun _ hx => List.mem_of_mem_take hx
theorem AllB.drop {l : List Int} (h : AllB l) (k : Nat) : AllB (l.drop k) := h.sub fun _ hx => List.mem_of_mem_drop hx
theorem AllB.app {l m : List Int} (h : AllB l) (k : AllB m) : AllB (l ++ m) := fun n hn => by
  rcases List.mem_append.1 hn with h1 | h1
  · exact h n h1
  · exact k n h1
theorem AllB.at_ {l : List Int} (h : AllB l) (i : Nat) : 0 ≤ l.getD i 0 ∧ l.getD i 0 < 256 := by
  by_cases hi : i < l.length
  · have := h l[i] (List.getElem_mem hi)
    simpa [List.getElem?_eq_getElem hi] using this
  · simp [List.getElem?_eq_none (by omega : l.length ≤ i)]
theorem AllB.zeros (n : Nat) : AllB (List.replicate n 0) := fun x hx => by
  have := (List.mem_replicate.1 hx).2; subst this; decide
theorem AllB.set {l : List Int} (h : AllB l) (i : Nat) {c : Int} (h0 : 0 ≤ c) (h1 : c < 256) : AllB (l.set i c) := fun n hn => by
  rcases List.mem_or_eq_of_mem_set hn with h2 | h2
  · exact h n h2
  · subst h2; exact ⟨h0, h1⟩

/-- So many bytes can be read from an address on (none: whatever the address). -/
def Bytes (w : World) (a : Option Addr) (l : List Int) : Prop :=
  AllB l ∧ ∀ i, i < l.length → ∃ b off, a = some ⟨b, off, none⟩ ∧ b < w.heap.size ∧ w.cell? ⟨b, off + i, none⟩ = some (.int .u8 (l.getD i 0))

theorem Bytes.spot {w : World} {a : Option Addr} {l : List Int} (h : Bytes w a l) (hl : 0 < l.length) :
    ∃ b off, a = some ⟨b, off, none⟩ ∧ b < w.heap.size ∧ ∀ i, i < l.length → w.cell? ⟨b, off + i, none⟩ = some (.int .u8 (l.getD i 0)) := by
  obtain ⟨b, off, e, hb, _⟩ := h.2 0 hl
  refine ⟨b, off, e, hb, fun i hi => ?_⟩
  obtain ⟨b', off', e', _, h2⟩ := h.2 i hi
  rw [e] at e'; simp at e'; obtain ⟨rfl, rfl⟩ := e'; exact h2
theorem Bytes.nil (w : World) (a : Option Addr) : Bytes w a [] := ⟨(fun _ h => by cases h), (fun i hi => absurd hi (by simp))⟩
theorem Bytes.below {w w' : World} {B : Nat} {a : Option Addr} {l : List Int} (h : Bytes w a l) (hb : Below B w w') (hB : w.heap.size ≤ B) : Bytes w' a l := by
  refine ⟨h.1, fun i hi => ?_⟩
  obtain ⟨b, off, e, h1, h2⟩ := h.2 i hi
  exact ⟨b, off, e, Nat.lt_of_lt_of_le h1 hb.size, (hb.cell (p := ⟨b, off + i, none⟩) (Nat.lt_of_lt_of_le h1 hB)).trans h2⟩

/-- A block is just these bytes, none frozen. -/
def Row (w : World) (g : Nat) (l : List Int) : Prop := w.heap[g]? = some (.cells (l.map (Value.int .u8)).toArray 5 (0, 0))

theorem Row.lt {w : World} {g : Nat} {l : List Int} (h : Row w g l) : g < w.heap.size := by
  rcases Nat.lt_or_ge g w.heap.size with hlt | hge
  · exact hlt
  · unfold Row at h; rw [Array.getElem?_eq_none hge] at h; cases h
theorem Row.cell {w : World} {g : Nat} {l : List Int} (h : Row w g l) {i : Nat} (hi : i < l.length) : w.cell? ⟨g, i, none⟩ = some (.int .u8 (l.getD i 0)) := by
  unfold Row at h
  simp [World.cell?, h, List.getElem?_eq_getElem hi]
theorem Row.frozen {w : World} {g : Nat} {l : List Int} (h : Row w g l) (i : Nat) : w.frozen? ⟨g, i, none⟩ = false := by
  unfold Row at h
  simp [World.frozen?, h]
theorem Row.bytes {w : World} {g : Nat} {l : List Int} (h : Row w g l) (hA : AllB l) : Bytes w (some ⟨g, 0, none⟩) l :=
  ⟨hA, fun i hi => ⟨g, 0, rfl, h.lt, by rw [Nat.zero_add]; exact h.cell hi⟩⟩
/-- .. from a place in it on, so many. -/
theorem Row.part {w : World} {g : Nat} {l : List Int} (h : Row w g l) (hA : AllB l) (o n : Nat) : Bytes w (some ⟨g, o, none⟩) ((l.drop o).take n) := by
  refine ⟨(hA.drop o).take n, fun i hi => ⟨g, o, rfl, h.lt, ?_⟩⟩
  have hi' : i < n ∧ o + i < l.length := by simp at hi; omega
  rw [h.cell hi'.2]
  simp [hi'.1]
theorem Row.new (w : World) (l : List Int) : Row (w.alloc (.cells (l.map (Value.int .u8)).toArray 5)) w.heap.size l := heap_alloc_new w _
theorem Row.drew {w : World} {g : Nat} {l : List Int} (h : Row w g l) : Row w.drew g l := h
theorem Row.alloc {w : World} {g : Nat} {l : List Int} (h : Row w g l) (o : Obj) : Row (w.alloc o) g l := (Below.heap_alloc w o g h.lt).trans h
theorem Row.set_ {w : World} {g : Nat} {l : List Int} (h : Row w g l) (i : Nat) (c : Int) : Row (w.setCell ⟨g, i, none⟩ (.int .u8 c)) g (l.set i c) := by
  unfold Row at h ⊢
  simp [World.setCell, Array.getElem?_modify, h, List.map_set]
theorem Row.far {w : World} {g : Nat} {l : List Int} (h : Row w g l) {p : Addr} (hp : g ≠ p.block) (u : Value) : Row (w.setCell p u) g l := (Below.heap_setCell w p u g hp).trans h
theorem Row.below {w w' : World} {B g : Nat} {l : List Int} (h : Row w g l) (hb : Below B w w') (hg : g < B) : Row w' g l := (hb.block g hg).trans h

theorem info8 : (Try.prog.info? 5).map (fun i => (i.zero, i.size, i.bytes)) = some (some (.int .u8 0), 1, 1) := by kernel_rfl

/-- 'make([]byte, n)' and its kin, n a variable: a new block of zeros. -/
theorem wpList_make_bytes (w : World) {ops : Array Oper} {rest : List Oper} {o : Oper} {a : Act} {Q : Exit → Act → World → Prop}
    (hg : o.guard = none) (l c : Operand) (hop : o.op = Op.makeSlice 22 l c)
    (kl kc : IntKind) (n : Nat) (L C : Int) (hl : a.eval l = .int kl L) (hc : a.eval c = .int kc C) (hL : L = n) (hC : C = n) (hbytes : n ≤ 281474976710656)
    (hK : ∀ w', Row w' w.heap.size (List.replicate n 0) → Below w.heap.size w w' → wpList Try.prog ops Q rest (a.put o.dst (.slice (some ⟨w.heap.size, 0, none⟩) n n)) w') :
    wpList Try.prog ops Q (o :: rest) a w := by
  subst hL; subst hC
  obtain ⟨i, hi, hzz⟩ := Option.map_eq_some_iff.1 info8
  simp only [Prod.mk.injEq] at hzz
  obtain ⟨hz, hs, hb⟩ := hzz
  refine wpList_make_row w hg l c 22 hop 5 i (.int .u8 0) Try.underlying22 hi hz hs rfl kl kc n hl hc (by rw [hb]; omega) (by omega) (hK _ ?_ ?_)
  · have e : madeCells #[Value.int .u8 0] n = ((List.replicate n (0 : Int)).map (Value.int .u8)).toArray := by
      apply Array.ext'
      rw [toList_madeCells_one]
      simp
    rw [e]
    exact Row.new w _
  · exact (Below.refl _ _).alloc (Nat.le_refl _) _
end Go.Proofs.Ytfofjnnjlnggjaa.Bytes8
