/-
  Texts beneath the proof, one behind the other.
-/
import Derived.Test.YtpfkhcgeblihcaaRows
import Derived.WalkKit
import Derived.ProofKit
import Derived.Below
import Derived.OpenShut
import Derived.Lib.Hide
import Derived.Outline
import Derived.Deep.OwnRows
import Derived.Laws.CopyOwn
import Derived.Laws.BytesArg
import Derived.Deep.Draws
import Derived.Laws.AppendOwn
import Derived.Laws.OwnMore
import Derived.Deep.RegionLaw
import Derived.BigQuiet
import Derived.Deep.QuietTactic
import Derived.Deep.Matrix
import Derived.ChangeSlices
import Derived.Laws.Concat
import Derived.Laws.StructEq
import Derived.Laws.Strings2
import Derived.Laws.Strings3

/-
  Words for bytes in memory: bytes that can be read from an address on; a block of bytes that is known whole; what 'make' of bytes lays.
-/
namespace Go.Proofs.Ytpfkhcgeblihcaa.Bytes8
open Go.ChangeShapes Go.WideShapes Go.ChangeAt Go.RowKit
set_option linter.unusedVariables false
set_option maxRecDepth 100000

theorem ret_int {k : IntKind} {a b : Int} (h : a = b) : Ending.returned (.int k a) = .returned (.int k b) := by rw [h]
theorem ret_bool {a b : Bool} (h : a = b) : Ending.returned (.bool a) = .returned (.bool b) := by rw [h]
theorem ret_int_bool {k : IntKind} {a b : Int} {c : Bool} (h : a = b) : Ending.returned (.tuple #[.int k a, .bool c]) = .returned (.tuple #[.int k b, .bool c]) := by rw [h]

theorem ret_slice_bool {A : Option Addr} {a b c : Nat} {t : Bool} (h : a = b) : Ending.returned (.tuple #[.slice A a c, .bool t]) = .returned (.tuple #[.slice A b c, .bool t]) := by rw [h]

def AllB (l : List Int) : Prop := ∀ n ∈ l, 0 ≤ n ∧ n < 256
theorem AllB.sub {l m : List Int} (h : AllB l) (hs : ∀ x ∈ m, x ∈ l) : AllB m := fun n hn => h n (hs n hn)
theorem AllB.take {l : List Int} (h : AllB l) (k : Nat) : AllB (l.take k) := h.sub fun _ hx => List.mem_of_mem_take hx
theorem AllB.drop {l : List Int} (h : AllB l) (k : Nat) : AllB (l.drop k) := h.sub fun _ hx => List.mem_of_mem_drop hx
theorem AllB.app {l m : List Int} (h : AllB l) (k : AllB m) : AllB (l ++ m) := fun n hn => by
  rcases List.mem_append.1 hn with h1 | h1
  · exact h n h1
  · exact k n h1
theorem AllB.at_ {l : List Int} (h : AllB l) (i : Nat) : 0 ≤ l.getD i 0 ∧ l.getD i 0 < 256 := by
  by_cases hi : i < l.length
  · have := h l[i] (List.getElem_mem hi)
    simpa [List.getElem?_eq_getElem hi] using this
  · simp [List.getElem?_eq_none (by omega : l.length ≤ i)]
theorem AllB.zeros (n : Nat) : AllB (List.replicate n 0) := fun x hx => by
  have := (List.mem_replicate.1 hx).2; subst this; decide
theorem AllB.set {l : List Int} (h : AllB l) (i : Nat) {c : Int} (h0 : 0 ≤ c) (h1 : c < 256) : AllB (l.set i c) := fun n hn => by
  rcases List.mem_or_eq_of_mem_set hn with h2 | h2
  · exact h n h2
  · subst h2; exact ⟨h0, h1⟩

/-- So many bytes can be read from an address on (none: whatever the address). -/
def Bytes (w : World) (a : Option Addr) (l : List Int) : Prop :=
  AllB l ∧ ∀ i, i < l.length → ∃ b off, a = some ⟨b, off, none⟩ ∧ b < w.heap.size ∧ w.cell? ⟨b, off + i, none⟩ = some (.int .u8 (l.getD i 0))

theorem Bytes.spot {w : World} {a : Option Addr} {l : List Int} (h : Bytes w a l) (hl : 0 < l.length) :
    ∃ b off, a = some ⟨b, off, none⟩ ∧ b < w.heap.size ∧ ∀ i, i < l.length → w.cell? ⟨b, off + i, none⟩ = some (.int .u8 (l.getD i 0)) := by
  obtain ⟨b, off, e, hb, _⟩ := h.2 0 hl
  refine ⟨b, off, e, hb, fun i hi => ?_⟩
  obtain ⟨b', off', e', _, h2⟩ := h.2 i hi
  rw [e] at e'; simp at e'; obtain ⟨rfl, rfl⟩ := e'; exact h2
theorem Bytes.nil (w : World) (a : Option Addr) : Bytes w a [] := ⟨(fun _ h => by cases h), (fun i hi => absurd hi (by simp))⟩
theorem Bytes.below {w w' : World} {B : Nat} {a : Option Addr} {l : List Int} (h : Bytes w a l) (hb : Below B w w') (hB : w.heap.size ≤ B) : Bytes w' a l := by
  refine ⟨h.1, fun i hi => ?_⟩
  obtain ⟨b, off, e, h1, h2⟩ := h.2 i hi
  exact ⟨b, off, e, Nat.lt_of_lt_of_le h1 hb.size, (hb.cell (p := ⟨b, off + i, none⟩) (Nat.lt_of_lt_of_le h1 hB)).trans h2⟩

theorem add_none (b off j : Nat) : (⟨b, off, none⟩ : Addr).add j = ⟨b, off + j, none⟩ := by
  unfold Addr.add
  split <;> simp_all

/-- .. as the laws on copy and append ask it. -/
theorem Bytes.source {w : World} {a : Option Addr} {l : List Int} (h : Bytes w a l) (w2 : World) (hb2 : Below w.heap.size w w2) (hpos : 0 < l.length) :
    ∃ ad, a = some ad ∧ ∀ (j : Nat) (x : Int), l[j]? = some x → w2.cell? (ad.add j) = some (.int .u8 x) := by
  obtain ⟨b, off, rfl, hlt, hc⟩ := h.spot hpos
  refine ⟨_, rfl, fun j x hx => ?_⟩
  have hlj : j < l.length := by
    rcases Nat.lt_or_ge j l.length with h | h
    · exact h
    · rw [List.getElem?_eq_none h] at hx; cases hx
  rw [add_none, hb2.cell (p := ⟨b, off + j, none⟩) hlt, hc j hlj]
  simp [hx]

/-- A block is just these bytes, none frozen. -/
def Row (w : World) (g : Nat) (l : List Int) : Prop := w.heap[g]? = some (.cells (l.map (Value.int .u8)).toArray 5 (0, 0))

theorem Row.lt {w : World} {g : Nat} {l : List Int} (h : Row w g l) : g < w.heap.size := by
  rcases Nat.lt_or_ge g w.heap.size with hlt | hge
  · exact hlt
  · unfold Row at h; rw [Array.getElem?_eq_none hge] at h; cases h
theorem Row.cell {w : World} {g : Nat} {l : List Int} (h : Row w g l) {i : Nat} (hi : i < l.length) : w.cell? ⟨g, i, none⟩ = some (.int .u8 (l.getD i 0)) := by
  unfold Row at h
  simp [World.cell?, h, List.getElem?_eq_getElem hi]
theorem Row.frozen {w : World} {g : Nat} {l : List Int} (h : Row w g l) (i : Nat) : w.frozen? ⟨g, i, none⟩ = false := by
  unfold Row at h
  simp [World.frozen?, h]
theorem Row.bytes {w : World} {g : Nat} {l : List Int} (h : Row w g l) (hA : AllB l) : Bytes w (some ⟨g, 0, none⟩) l :=
  ⟨hA, fun i hi => ⟨g, 0, rfl, h.lt, by rw [Nat.zero_add]; exact h.cell hi⟩⟩
/-- .. from a place in it on, so many. -/
theorem Row.part {w : World} {g : Nat} {l : List Int} (h : Row w g l) (hA : AllB l) (o n : Nat) : Bytes w (some ⟨g, o, none⟩) ((l.drop o).take n) := by
  refine ⟨(hA.drop o).take n, fun i hi => ⟨g, o, rfl, h.lt, ?_⟩⟩
  have hi' : i < n ∧ o + i < l.length := by simp at hi; omega
  rw [h.cell hi'.2]
  simp [hi'.1]
theorem Row.new (w : World) (l : List Int) : Row (w.alloc (.cells (l.map (Value.int .u8)).toArray 5)) w.heap.size l := heap_alloc_new w _
theorem Row.drew {w : World} {g : Nat} {l : List Int} (h : Row w g l) : Row w.drew g l := h
theorem Row.alloc {w : World} {g : Nat} {l : List Int} (h : Row w g l) (o : Obj) : Row (w.alloc o) g l := (Below.heap_alloc w o g h.lt).trans h
theorem Row.set_ {w : World} {g : Nat} {l : List Int} (h : Row w g l) (i : Nat) (c : Int) : Row (w.setCell ⟨g, i, none⟩ (.int .u8 c)) g (l.set i c) := by
  unfold Row at h ⊢
  simp [World.setCell, Array.getElem?_modify, h, List.map_set]
theorem Row.far {w : World} {g : Nat} {l : List Int} (h : Row w g l) {p : Addr} (hp : g ≠ p.block) (u : Value) : Row (w.setCell p u) g l := (Below.heap_setCell w p u g hp).trans h
theorem Row.below {w w' : World} {B g : Nat} {l : List Int} (h : Row w g l) (hb : Below B w w') (hg : g < B) : Row w' g l := (hb.block g hg).trans h

theorem info8 : (Try.prog.info? 5).map (fun i => (i.zero, i.size, i.bytes)) = some (some (.int .u8 0), 1, 1) := by kernel_rfl

/-- 'make([]byte, n)' and its kin, n a variable: a new block of zeros. -/
theorem wpList_make_bytes (w : World) {ops : Array Oper} {rest : List Oper} {o : Oper} {a : Act} {Q : Exit → Act → World → Prop}
    (hg : o.guard = none) (l c : Operand) (hop : o.op = Op.makeSlice 44 l c)
    (kl kc : IntKind) (n : Nat) (L C : Int) (hl : a.eval l = .int kl L) (hc : a.eval c = .int kc C) (hL : L = n) (hC : C = n) (hbytes : n ≤ 281474976710656)
    (hK : ∀ w', Row w' w.heap.size (List.replicate n 0) → Below w.heap.size w w' → wpList Try.prog ops Q rest (a.put o.dst (.slice (some ⟨w.heap.size, 0, none⟩) n n)) w') :
    wpList Try.prog ops Q (o :: rest) a w := by
  subst hL; subst hC
  obtain ⟨i, hi, hzz⟩ := Option.map_eq_some_iff.1 info8
  simp only [Prod.mk.injEq] at hzz
  obtain ⟨hz, hs, hb⟩ := hzz
  refine wpList_make_row w hg l c 44 hop 5 i (.int .u8 0) Try.underlying44 hi hz hs rfl kl kc n hl hc (by rw [hb]; omega) (by omega) (hK _ ?_ ?_)
  · have e : madeCells #[Value.int .u8 0] n = ((List.replicate n (0 : Int)).map (Value.int .u8)).toArray := by
      apply Array.ext'
      rw [toList_madeCells_one]
      simp
    rw [e]
    exact Row.new w _
  · exact (Below.refl _ _).alloc (Nat.le_refl _) _
/-- 'string(b)' of bytes that can be read. -/
theorem Bytes.string {w : World} {a : Option Addr} {l : List Int} (h : Bytes w a l) (cap n : Nat) (hn : l.length = n) :
    (convert 44 9 (.slice a n cap)).run Try.prog w = .ok (.string (strOfNums l)) w := by
  subst hn
  by_cases h0 : 0 < l.length
  · obtain ⟨b, off, rfl, _, hc⟩ := h.spot h0
    exact run_convert_bytes_arg w 44 5 Try.underlying44 Try.underlying5 b off l.length cap l rfl hc 9 Try.underlying9
  · obtain rfl : l = [] := List.eq_nil_of_length_eq_zero (by omega)
    cases a with
    | none => exact run_convert_bytes_nil w 44 5 Try.underlying44 Try.underlying5 0 cap 9 Try.underlying9
    | some ad =>
      have hl := run_loadCells_list (P := Try.prog) w ad [] (fun j v hj => by simp at hj)
      rw [run_convert_bytes_string w 44 9 5 (some ad) ([] : List Int).length cap Try.underlying44 Try.underlying5 Try.underlying9]
      exact run_bytesToString w ad ([] : List Int).length cap [] hl
theorem Bytes.drew {w : World} {a : Option Addr} {l : List Int} (h : Bytes w a l) : Bytes w.drew a l := h
theorem Bytes.drewN {w : World} {a : Option Addr} {l : List Int} (h : Bytes w a l) (k : Nat) : Bytes (w.drewN k) a l := h

/-- A part of bytes that can be read, as a cut 'b[o:o+n]' makes it. -/
theorem Bytes.part {w : World} {a : Option Addr} {l : List Int} (h : Bytes w a l) (o n : Nat) (a' : Option Addr) (ha : ∀ b off, a = some ⟨b, off, none⟩ → 0 < n → o < l.length → a' = some ⟨b, off + o, none⟩) : Bytes w a' ((l.drop o).take n) := by
  refine ⟨(h.1.drop o).take n, fun i hi => ?_⟩
  have hi' : i < n ∧ o + i < l.length := by simp at hi; omega
  obtain ⟨b, off, e, hlt, hc⟩ := h.2 (o + i) hi'.2
  refine ⟨b, off + o, ha b off e (by omega) (by omega), hlt, ?_⟩
  rw [Nat.add_assoc, hc]
  simp [hi'.1]
end Go.Proofs.Ytpfkhcgeblihcaa.Bytes8

/-
  What 'Number' answers: the number below another one, from 0 on.
-/
namespace Go.Proofs.Ytpfkhcgeblihcaa.Numb
open Go.ChangeShapes Go.WideShapes Go.ChangeAt Go.RowKit
open Bytes8
set_option linter.unusedVariables false
set_option maxRecDepth 100000

def numBelow (n b : Int) : Int := (n.tmod b + b) % b
theorem numBelow_lo (n b : Int) (hb : 1 ≤ b) : 0 ≤ numBelow n b := Int.emod_nonneg _ (by omega)
theorem numBelow_hi (n b : Int) (hb : 1 ≤ b) : numBelow n b < b := Int.emod_lt_of_pos _ (by omega)
theorem tmod_lo (n b : Int) (hb : 1 ≤ b) : -b < n.tmod b ∧ n.tmod b < b := by
  have h1 := Int.tmod_lt_of_pos n (b := b) (by omega)
  have h2 := Int.lt_tmod_of_pos n (b := b) (by omega)
  omega

theorem below_nat (n b : Int) (hb : 1 ≤ b) : ∃ j : Nat, Hid (numBelow n b = j) ∧ (j : Int) < b := by
  have h1 := numBelow_lo n b hb
  have h2 := numBelow_hi n b hb
  exact ⟨(numBelow n b).toNat, by unfold Hid; omega, by omega⟩

end Go.Proofs.Ytpfkhcgeblihcaa.Numb

/-
  Words for bytes that a call gathers by append: what it owns, and 'append' onto it from bytes that can be read.
-/
namespace Go.Proofs.Ytpfkhcgeblihcaa.Own8
open Go.ChangeShapes Go.WideShapes Go.ChangeAt Go.RowKit
open Bytes8
set_option linter.unusedVariables false
set_option maxRecDepth 100000

/-- The slice value '.slice A n c' is the call's own: its bytes are l, in a block from base on, or it is nil. -/
def Own (w : World) (base : Nat) (A : Option Addr) (n c : Nat) (l : List Int) : Prop :=
  AllB l ∧ l.length = n ∧ base ≤ w.heap.size ∧ w.ownsRow base 5 1 (.slice A n c) n (l.map (Value.int .u8))

theorem Own.nil (w : World) (base : Nat) (h : base ≤ w.heap.size) : Own w base none 0 0 [] := ⟨(fun _ h => by cases h), rfl, h, World.ownsRow_nil _ _ _ _⟩
theorem Own.made (w : World) (base : Nat) (h : base ≤ w.heap.size) : Own (w.alloc (.cells #[] 5)) base (some ⟨w.heap.size, 0, none⟩) 0 0 [] :=
  ⟨(fun _ h => by cases h), rfl, Nat.le_trans h (by simp), World.ownsRow_lit w #[] 0 h (by decide) rfl⟩

theorem Own.lt {w : World} {base : Nat} {A : Option Addr} {n c : Nat} {l : List Int} (h : Own w base A n c l) : ∀ k, (Value.slice A n c).ownBlock = some k → base ≤ k ∧ k < w.heap.size := h.2.2.2.lt

theorem Own.bytes {w : World} {base : Nat} {A : Option Addr} {n c : Nat} {l : List Int} (h : Own w base A n c l) : Bytes w A l := by
  obtain ⟨hA, hn, _, ho⟩ := h
  refine ⟨hA, fun i hi => ?_⟩
  rcases ho.2 with ⟨he, h0⟩ | ⟨g, cap, cur, hv, hb, hg, _⟩
  · omega
  · injection hv with h1 h2 h3
    subst h1
    have hlt : g < w.heap.size := by
      rcases Nat.lt_or_ge g w.heap.size with h | h
      · exact h
      · rw [Array.getElem?_eq_none h] at hg; cases hg
    refine ⟨g, 0, rfl, hlt, ?_⟩
    rw [Nat.zero_add, ho.cellAt i (by omega)]
    simp [List.getElem?_eq_getElem hi]

theorem Own.kept {w w' : World} {base B : Nat} {A : Option Addr} {n c : Nat} {l : List Int} (h : Own w base A n c l) (hb : Below B w w') (hB : w.heap.size ≤ B) : Own w' base A n c l := by
  refine ⟨h.1, h.2.1, Nat.le_trans h.2.2.1 hb.size, h.2.2.2.1, ?_⟩
  rcases h.2.2.2.2 with h1 | ⟨g, cap, cur, h1, h2, h3, h4⟩
  · exact .inl h1
  · refine .inr ⟨g, cap, cur, h1, h2, ?_, h4⟩
    have hlt : g < w.heap.size := by
      rcases Nat.lt_or_ge g w.heap.size with h | h
      · exact h
      · rw [Array.getElem?_eq_none h] at h3; cases h3
    rw [hb.block g (by omega)]; exact h3

theorem Own.drew {w : World} {base : Nat} {A : Option Addr} {n c : Nat} {l : List Int} (h : Own w base A n c l) : Own w.drew base A n c l := h

theorem Own.far {w : World} {base : Nat} {A : Option Addr} {n c : Nat} {l : List Int} (h : Own w base A n c l) {a : Addr} (ha : a.block < base) (u : Value) : Own (w.setCell a u) base A n c l :=
  ⟨h.1, h.2.1, by simpa using h.2.2.1, ownsRow_setCell_below h.2.2.2 ha u⟩
theorem Own.alloc {w : World} {base : Nat} {A : Option Addr} {n c : Nat} {l : List Int} (h : Own w base A n c l) (o : Obj) : Own (w.alloc o) base A n c l := h.kept ((Below.refl _ _).alloc (Nat.le_refl _) o) (Nat.le_refl _)

theorem ones (l : List Int) : ∀ u ∈ l.map (Value.int .u8), u.oneCell' = true := by
  intro v hv; obtain ⟨x, _, rfl⟩ := List.mem_map.1 hv; rfl

theorem below_grown {w w' : World} {base : Nat} {row : Option Nat} (hg : w.grownBy w' row) (hb : base ≤ w.heap.size) (hr : ∀ k, row = some k → base ≤ k) : Below base w w' :=
  (Below.refl base w).grown hg hb hr

theorem run_append_bytes (w : World) (ty : TypeId) (base : Nat) (A : Option Addr) (n c : Nat) (l : List Int) (ho : Own w base A n c l) (A2 : Option Addr) (m c2 : Nat) (ys : List Int) (hb : Bytes w A2 ys) (hm : ys.length = m) (hsz : n + m ≤ 70368744177664) :
    ∃ A' c' w', (Builtin.append_ #[44, 44] ty #[.slice A n c, .slice A2 m c2]).run Try.prog w = .ok (.slice A' (n + m) c') w' ∧ Own w' base A' (n + m) c' (l ++ ys) ∧ Below base w w' := by
  obtain ⟨i, hi, hzz⟩ := Option.map_eq_some_iff.1 info8
  simp only [Prod.mk.injEq] at hzz
  obtain ⟨hz, hs, hby⟩ := hzz
  have hown := ho.2.2.2
  have done : ∀ (v' : Value) (w' : World), w'.ownsRow base 5 1 v' (n + m) (l.map (Value.int .u8) ++ ys.map (Value.int .u8)) → w.grownBy w' (Value.slice A n c).ownBlock →
      ∃ A' c', v' = .slice A' (n + m) c' ∧ Own w' base A' (n + m) c' (l ++ ys) ∧ Below base w w' := by
    intro v' w' h2 h3
    have hbel := below_grown h3 ho.2.2.1 (fun k hk => (ho.lt k hk).1)
    have hL : (l ++ ys).length = n + m := by rw [List.length_append, ho.2.1, hm]
    rw [← List.map_append] at h2
    rcases h2.2 with ⟨rfl, h0⟩ | ⟨g, cap, cur, rfl, _⟩
    · rw [h0] at h2 hL ⊢
      exact ⟨none, 0, rfl, ⟨ho.1.app hb.1, hL, Nat.le_trans ho.2.2.1 hbel.size, h2⟩, hbel⟩
    · exact ⟨_, _, rfl, ⟨ho.1.app hb.1, hL, Nat.le_trans ho.2.2.1 hbel.size, h2⟩, hbel⟩
  have hlen : (ys.map (Value.int .u8)).length = m * 1 := by simp [hm]
  by_cases h0 : 0 < ys.length
  · obtain ⟨ad, rfl, hsrc⟩ := hb.source w (Below.refl _ _) h0
    obtain ⟨v', w', hr, h2, h3, _⟩ := run_append_own (P := Try.prog) w base 44 ty 5 i (.int .u8 0) 1 1 Try.underlying44 hi hz hs hby rfl (by decide) _ n _ hown ad m c2 (ys.map (Value.int .u8)) hlen
      (fun j u hu => by
        rw [List.getElem?_map] at hu
        obtain ⟨x, hx, rfl⟩ := Option.map_eq_some_iff.1 hu
        exact hsrc j x hx) (ones ys) (by unfold maxLen; omega) (by omega) ho.2.2.1
    obtain ⟨A', c', rfl, h4, h5⟩ := done v' w' h2 h3
    exact ⟨A', c', w', hr, h4, h5⟩
  · obtain rfl : ys = [] := List.eq_nil_of_length_eq_zero (by omega)
    obtain rfl : m = 0 := by simpa using hm.symm
    cases A2 with
    | some ad =>
      obtain ⟨v', w', hr, h2, h3, _⟩ := run_append_own (P := Try.prog) w base 44 ty 5 i (.int .u8 0) 1 1 Try.underlying44 hi hz hs hby rfl (by decide) _ n _ hown ad 0 c2 [] rfl
        (fun j u hu => by simp at hu) (fun u hu => by cases hu) (by unfold maxLen; omega) (by omega) ho.2.2.1
      obtain ⟨A', c', rfl, h4, h5⟩ := done v' w' h2 h3
      exact ⟨A', c', w', hr, h4, h5⟩
    | none =>
      refine ⟨A, c, w, ?_, ?_, Below.refl _ _⟩
      · rcases hown.2 with ⟨he, h0'⟩ | ⟨g, cap, cur, he, _, _, hnc, _⟩
        · injection he with e1 e2 e3
          subst e1; subst e2; subst e3
          simp [Builtin.append_, run_underlying Try.underlying44, sizeOf, typeInfo, hi, Builtin.lenOf, Builtin.firstCells]
        · injection he with e1 e2 e3
          subst e1; subst e3
          simp [Builtin.append_, run_underlying Try.underlying44, sizeOf, typeInfo, hi, Builtin.lenOf, Builtin.firstCells, hnc, storeCells]
      · rw [Nat.add_zero, List.append_nil]; exact ho

theorem wp_append_bytes {w : World} {o : Oper} {a : Act} {K : Act → World → Prop} {Q : Exit → Act → World → Prop} (s x : Operand)
    (hop : o.op = .call { callee := .builtin .append, args := #[s, x], argTypes := #[44, 44] })
    (base : Nat) (A : Option Addr) (n c : Nat) (l : List Int) (hs : a.eval s = .slice A n c) (ho : Own w base A n c l) (A2 : Option Addr) (m c2 : Nat) (ys : List Int) (hx : a.eval x = .slice A2 m c2) (hb : Bytes w A2 ys) (hm : ys.length = m) (hsz : n + m ≤ 70368744177664)
    (h : ∀ A' c' w', Own w' base A' (n + m) c' (l ++ ys) → Below base w w' → K (a.put o.dst (.slice A' (n + m) c')) w') : o.wp Try.prog a w K Q := by
  obtain ⟨A', c', w', hr, h1, h2⟩ := run_append_bytes w o.type base A n c l ho A2 m c2 ys hb hm hsz
  unfold Oper.wp execOp
  simp only [hop, resolve, invoke, builtin, Sem.run_bind, Sem.run_pure, Result.andThen_ok, List.map_toArray, List.map_cons, List.map_nil, hs, hx, hr]
  exact h A' c' w' h1 h2

theorem wpList_append_bytes {w : World} {ops : Array Oper} {rest : List Oper} {o : Oper} {a : Act} {Q : Exit → Act → World → Prop} (hgd : o.guard = none) (s x : Operand)
    (hop : o.op = .call { callee := .builtin .append, args := #[s, x], argTypes := #[44, 44] })
    (base : Nat) (A : Option Addr) (n c : Nat) (l : List Int) (hs : a.eval s = .slice A n c) (ho : Own w base A n c l) (A2 : Option Addr) (m c2 : Nat) (ys : List Int) (hx : a.eval x = .slice A2 m c2) (hb : Bytes w A2 ys) (hm : ys.length = m) (hsz : n + m ≤ 70368744177664)
    (h : ∀ A' c' w', Own w' base A' (n + m) c' (l ++ ys) → Below base w w' → wpList Try.prog ops Q rest (a.put o.dst (.slice A' (n + m) c')) w') : wpList Try.prog ops Q (o :: rest) a w :=
  wpList_plain hgd fun _ hK => wp_append_bytes s x hop base A n c l hs ho A2 m c2 ys hx hb hm hsz fun A' c' w' h1 h2 => hK _ _ (h A' c' w' h1 h2)

/-- .. where the operation has a guard that says yes. -/
theorem wpList_append_want {w : World} {ops : Array Oper} {rest : List Oper} {o : Oper} {a : Act} {Q : Exit → Act → World → Prop} (hw : Region.wanted o (yielded ops a.tmps) = true) (s x : Operand)
    (hop : o.op = .call { callee := .builtin .append, args := #[s, x], argTypes := #[44, 44] })
    (base : Nat) (A : Option Addr) (n c : Nat) (l : List Int) (hs : a.eval s = .slice A n c) (ho : Own w base A n c l) (A2 : Option Addr) (m c2 : Nat) (ys : List Int) (hx : a.eval x = .slice A2 m c2) (hb : Bytes w A2 ys) (hm : ys.length = m) (hsz : n + m ≤ 70368744177664)
    (h : ∀ A' c' w', Own w' base A' (n + m) c' (l ++ ys) → Below base w w' → wpList Try.prog ops Q rest (a.put o.dst (.slice A' (n + m) c')) w') : wpList Try.prog ops Q (o :: rest) a w :=
  BigFrame.wpList_want hw fun _ hK => wp_append_bytes s x hop base A n c l hs ho A2 m c2 ys hx hb hm hsz fun A' c' w' h1 h2 => hK _ _ (h A' c' w' h1 h2)

theorem step_append_bytes {w : World} {ops : Array Oper} {o : Oper} {a : Act} {K : Act → World → Prop} {Q : Exit → Act → World → Prop} {E : Prop} (hgd : o.guard = none) (s x : Operand)
    (hop : o.op = .call { callee := .builtin .append, args := #[s, x], argTypes := #[44, 44] })
    (base : Nat) (A : Option Addr) (n c : Nat) (l : List Int) (hs : a.eval s = .slice A n c) (ho : Own w base A n c l) (A2 : Option Addr) (m c2 : Nat) (ys : List Int) (hx : a.eval x = .slice A2 m c2) (hb : Bytes w A2 ys) (hm : ys.length = m) (hsz : n + m ≤ 70368744177664)
    (h : ∀ A' c' w', Own w' base A' (n + m) c' (l ++ ys) → Below base w w' → K (a.put o.dst (.slice A' (n + m) c')) w') :
    if Region.wanted o (yielded ops a.tmps) = true then Oper.wp Try.prog o a w K Q else E := by
  have hw : Region.wanted o (yielded ops a.tmps) = true := by simp [Region.wanted, hgd]
  rw [if_pos hw]
  exact wp_append_bytes s x hop base A n c l hs ho A2 m c2 ys hx hb hm hsz h
end Go.Proofs.Ytpfkhcgeblihcaa.Own8

/-
  Words for a block of memory that is known whole, whatever its cells; and small words on what became of the world.
-/
namespace Go.Proofs.Ytpfkhcgeblihcaa.Blk8
open Go.ChangeShapes Go.WideShapes Go.ChangeAt Go.RowKit
open Bytes8
set_option linter.unusedVariables false
set_option maxRecDepth 100000

/-- A block is just these cells. -/
def Blk (w : World) (g : Nat) (vs : List Value) (T : TypeId) : Prop := w.heap[g]? = some (.cells vs.toArray T (0, 0))
theorem Blk.lt {w : World} {g : Nat} {vs : List Value} {T : TypeId} (h : Blk w g vs T) : g < w.heap.size := by
  rcases Nat.lt_or_ge g w.heap.size with hlt | hge
  · exact hlt
  · unfold Blk at h; rw [Array.getElem?_eq_none hge] at h; cases h
theorem Blk.cell {w : World} {g : Nat} {vs : List Value} {T : TypeId} (h : Blk w g vs T) {i : Nat} {v : Value} (hi : vs[i]? = some v) : w.cell? ⟨g, i, none⟩ = some v := by
  unfold Blk at h
  simp [World.cell?, h, hi]
theorem Blk.frozen {w : World} {g : Nat} {vs : List Value} {T : TypeId} (h : Blk w g vs T) (i : Nat) : w.frozen? ⟨g, i, none⟩ = false := by
  unfold Blk at h
  simp [World.frozen?, h]
theorem Blk.new (w : World) (vs : List Value) (T : TypeId) : Blk (w.alloc (.cells vs.toArray T)) w.heap.size vs T := heap_alloc_new w _
theorem Blk.new_at (w : World) (vs : List Value) (T : TypeId) (g : Nat) (h : w.heap.size = g) : Blk (w.alloc (.cells vs.toArray T)) g vs T := h ▸ Blk.new w vs T
theorem Blk.below {w w' : World} {B g : Nat} {vs : List Value} {T : TypeId} (h : Blk w g vs T) (hb : Below B w w') (hg : g < B) : Blk w' g vs T := (hb.block g hg).trans h
theorem Blk.set_ {w : World} {g : Nat} {vs : List Value} {T : TypeId} (h : Blk w g vs T) (i : Nat) (v : Value) : Blk (w.setCell ⟨g, i, none⟩ v) g (vs.set i v) T := by
  unfold Blk at h ⊢
  simp [World.setCell, Array.getElem?_modify, h]
theorem Blk.far {w : World} {g : Nat} {vs : List Value} {T : TypeId} (h : Blk w g vs T) {p : Addr} (hp : g ≠ p.block) (u : Value) : Blk (w.setCell p u) g vs T := (Below.heap_setCell w p u g hp).trans h
theorem Blk.alloc {w : World} {g : Nat} {vs : List Value} {T : TypeId} (h : Blk w g vs T) (o : Obj) : Blk (w.alloc o) g vs T := (Below.heap_alloc w o g h.lt).trans h
theorem Blk.bytes {w : World} {g : Nat} {l : List Int} {T : TypeId} (h : Blk w g (l.map (Value.int .u8)) T) (hA : AllB l) : Bytes w (some ⟨g, 0, none⟩) l :=
  ⟨hA, fun i hi => ⟨g, 0, rfl, h.lt, by rw [Nat.zero_add]; exact h.cell (by simp [List.getElem?_eq_getElem hi])⟩⟩

/-- .. of bytes, whatever the block's type. -/
theorem Blk.new_bytes (w : World) (l : List Int) (T : TypeId) : Blk (w.alloc (.cells (l.map (Value.int .u8)).toArray T)) w.heap.size (l.map (Value.int .u8)) T := Blk.new w _ T

theorem below_drewN {B : Nat} {a w : World} (h : Below B a w) (n : Nat) : Below B a (w.drewN n) := ⟨h.os, h.tape, h.output, h.size, h.block⟩
theorem Blk.drew {w : World} {g : Nat} {vs : List Value} {T : TypeId} (h : Blk w g vs T) : Blk w.drew g vs T := h
theorem Blk.drewN {w : World} {g : Nat} {vs : List Value} {T : TypeId} (h : Blk w g vs T) (n : Nat) : Blk (w.drewN n) g vs T := h
theorem below_bytes {w w' : World} {A : Option Addr} {l : List Int} (h : Bytes w A l) (hb : Below w.heap.size w w') : Bytes w' A l := h.below hb (Nat.le_refl _)
/-- A callee that leaves the world as it was, inside a region that draws. -/
theorem quiet_kept {P : Program} {f : FuncId} {args : Array Value} {w : World} {n : Nat} {v : Value}
    (h : Calls P f args (w.drewN n) fun e w' => e = .returned v ∧ w.drewN n = w') : Calls P f args (w.drewN n) fun e w' => e = .returned v ∧ ∃ m, w' = w.drewN m :=
  h.mono fun _ _ hh => ⟨hh.1, n, hh.2.symm⟩

/-! ## what comes in -/
/-- WHAT THE WALK IS TOLD OF A SLICE OF INTEGERS THAT CAME IN, as the guide's shell hands it. -/
def IsRow (k : IntKind) (w : World) (a : Option Addr) (len cap : Nat) (zs : List Int) : Prop :=
  (a = none ∧ len = 0 ∧ cap = 0 ∧ zs = []) ∨
  ∃ x, a = some x ∧ len ≤ cap ∧ cap ≤ maxLen ∧ zs.length = cap ∧ (∀ i, i < zs.length → w.cell? (x.add i) = some (.int k (zs.getD i 0))) ∧ ∀ n ∈ zs, (Lit.int k n).wf = true

theorem bounds_of_cell {w : World} {p : Addr} {v : Value} (h : w.cell? p = some v) : p.block < w.heap.size := by
  rcases Nat.lt_or_ge p.block w.heap.size with hlt | hge
  · exact hlt
  · simp [World.cell?, Array.getElem?_eq_none hge] at h

theorem IsRow.bytes {w : World} {a : Option Addr} {len cap : Nat} {zs : List Int} (h : IsRow .u8 w a len cap zs) :
    Bytes w a (zs.take len) ∧ (zs.take len).length = len ∧ len ≤ cap ∧ cap ≤ maxLen ∧ (a = none → cap = 0) := by
  rcases h with ⟨rfl, rfl, rfl, rfl⟩ | ⟨x, rfl, hl, hm, hz, hcell, hwz⟩
  · exact ⟨Bytes.nil _ _, rfl, Nat.le_refl _, by decide, fun _ => rfl⟩
  · have hlen : (zs.take len).length = len := by simp; omega
    have hAll : AllB zs := fun n hn => by
      have := bounds_u8 (hwz n hn)
      omega
    refine ⟨⟨hAll.take len, fun i hi => ?_⟩, hlen, hl, hm, fun h => by cases h⟩
    rw [hlen] at hi
    have hc := hcell i (by omega)
    obtain ⟨b, off, spot⟩ := x
    have hspot : spot = none := by
      have h0 := hcell 0 (by omega)
      simpa [Addr.add] using World.cell?_spot h0
    subst hspot
    have hb := bounds_of_cell hc
    have e : (⟨b, off, none⟩ : Addr).add i = ⟨b, off + i, none⟩ := by
      unfold Addr.add
      split <;> simp_all
    rw [e] at hc hb
    refine ⟨b, off, rfl, hb, ?_⟩
    rw [hc]
    simp [hi]

theorem row_of_trod {H : Type} {enc : TypeId × Value → H} {P : Program} {w : World} {base : Nat} {held : Bool} {t e : TypeId} {k : IntKind} {a : Option Addr} {len cap : Nat} {d : DataW H} {p : List MemPlace} (ht : P.underlying t = some (.slice e)) (he : P.underlying e = some (.int k)) (hc : P.cellsOf e = 1)
    (h : DataW.Trod enc P w base (fun _ => true) held t (.slice a len cap) d p) : ∃ zs, IsRow k w a len cap zs := by
  obtain ⟨fuel, hf⟩ := h
  rcases open_ints ht he hc hf with ⟨hcs, _⟩ | ⟨x, l, c, zs, hcs, _, hl, hm, hz, _, hcell, hwz⟩
  · simp [Value.cells] at hcs
    obtain ⟨rfl, rfl, rfl⟩ := hcs
    exact ⟨[], .inl ⟨rfl, rfl, rfl, rfl⟩⟩
  · simp [Value.cells] at hcs
    obtain ⟨rfl, rfl, rfl⟩ := hcs
    exact ⟨zs, .inr ⟨_, rfl, hl, hm, by simpa using hz, hcell, hwz⟩⟩

/-- A slice of slices of integers that came in. -/
def IsRows (k : IntKind) (w : World) (a : Option Addr) (len cap : Nat) (A : Nat → Option Addr) (L C : Nat → Nat) (Z : Nat → List Int) : Prop :=
  (a = none ∧ len = 0 ∧ cap = 0) ∨
  ∃ x, a = some x ∧ len ≤ cap ∧ cap ≤ maxLen ∧ ∀ r, r < cap → w.cell? (x.add r) = some (.slice (A r) (L r) (C r)) ∧ IsRow k w (A r) (L r) (C r) (Z r)
theorem rows_of_trod {H : Type} {enc : TypeId × Value → H} {P : Program} {w : World} {base : Nat} {held : Bool} {t e q : TypeId} {k : IntKind} {a : Option Addr} {len cap : Nat} {d : DataW H} {p : List MemPlace} (ht : P.underlying t = some (.slice e)) (he : P.underlying e = some (.slice q)) (hq : P.underlying q = some (.int k)) (ce : P.cellsOf e = 1) (cq : P.cellsOf q = 1)
    (h : DataW.Trod enc P w base (fun _ => true) held t (.slice a len cap) d p) : ∃ A L C Z, IsRows k w a len cap A L C Z := by
  obtain ⟨fuel, hf⟩ := h
  rcases Go.Deep.open_int_rows ht he hq ce cq hf with ⟨hcs, _⟩ | ⟨x, l, c, A, L, C, Z, hcs, _, hl, hm, _, hr⟩
  · simp [Value.cells] at hcs
    obtain ⟨rfl, rfl, rfl⟩ := hcs
    exact ⟨fun _ => none, fun _ => 0, fun _ => 0, fun _ => [], .inl ⟨rfl, rfl, rfl⟩⟩
  · simp [Value.cells] at hcs
    obtain ⟨rfl, rfl, rfl⟩ := hcs
    refine ⟨A, L, C, Z, .inr ⟨_, rfl, hl, hm, fun r hrc => ?_⟩⟩
    obtain ⟨h1, h2, h3, h4, h5, h6, h7⟩ := hr r hrc
    refine ⟨h1, ?_⟩
    cases hA : A r with
    | none =>
      have := h6 hA
      refine .inl ⟨rfl, by omega, this, List.eq_nil_of_length_eq_zero (by omega)⟩
    | some a' => exact .inr ⟨a', rfl, h2, h3, h4, fun i hi => (h7 a' hA).2 i (by omega), h5⟩

/-! ## sixteen bytes by value -/
def idL (K : Nat → Int) : List Int := [K 0, K 1, K 2, K 3, K 4, K 5, K 6, K 7, K 8, K 9, K 10, K 11, K 12, K 13, K 14, K 15]
abbrev idV (K : Nat → Int) : Value := .agg #[.int .u8 (K 0), .int .u8 (K 1), .int .u8 (K 2), .int .u8 (K 3), .int .u8 (K 4), .int .u8 (K 5), .int .u8 (K 6), .int .u8 (K 7), .int .u8 (K 8), .int .u8 (K 9), .int .u8 (K 10), .int .u8 (K 11), .int .u8 (K 12), .int .u8 (K 13), .int .u8 (K 14), .int .u8 (K 15)]
abbrev idC (T : TypeId) (K : Nat → Int) : Obj := .cells #[.int .u8 (K 0), .int .u8 (K 1), .int .u8 (K 2), .int .u8 (K 3), .int .u8 (K 4), .int .u8 (K 5), .int .u8 (K 6), .int .u8 (K 7), .int .u8 (K 8), .int .u8 (K 9), .int .u8 (K 10), .int .u8 (K 11), .int .u8 (K 12), .int .u8 (K 13), .int .u8 (K 14), .int .u8 (K 15)] T
def IdOk (K : Nat → Int) : Prop := ∀ i, 0 ≤ K i ∧ K i < 256
theorem idL_all {K : Nat → Int} (h : IdOk K) : AllB (idL K) := fun n hn => by
  simp only [idL, List.mem_cons, List.not_mem_nil, or_false] at hn
  rcases hn with h1 | h1 | h1 | h1 | h1 | h1 | h1 | h1 | h1 | h1 | h1 | h1 | h1 | h1 | h1 | h1 <;> (rw [h1]; exact h _)
theorem id_boxed (T : TypeId) (K : Nat → Int) (h : IdOk K) (w : World) : Bytes (w.alloc (idC T K)) (some ⟨w.heap.size, 0, none⟩) (idL K) := (Blk.new w ((idL K).map (Value.int .u8)) T).bytes (idL_all h)

theorem id_of_trod {H : Type} {enc : TypeId × Value → H} {P : Program} {w : World} {base b0 : Nat} {held : Bool} {r : Reach} {spare : Nat → Bool} {t e : TypeId} {v : Value} {d : DataW H} {p : List MemPlace} (ht : P.underlying t = some (.array 16 e)) (he : P.underlying e = some (.int .u8)) (ct : P.cellsOf t = 16) (ce : P.cellsOf e = 1)
    (hv : Value.okWide P w r b0 t v) (h : DataW.Trod enc P w base spare held t v d p) : ∃ K, v = idV K ∧ IdOk K := by
  simp only [Value.okWide, ht] at hv
  obtain ⟨cs, rfl, hsz, _⟩ := hv
  obtain ⟨l⟩ := cs
  rw [ct] at hsz
  obtain ⟨fuel, hf⟩ := h
  obtain ⟨xs, m, _, _, _, hlen, hel⟩ := DataW.trod_array ht hf
  have each : ∀ i, i < 16 → ∃ n, l[i]? = some (.int .u8 n) ∧ 0 ≤ n ∧ n < 256 := by
    intro i hi
    have h1 := hel i hi
    have hx : xs[i]? = some (xs[i]'(by omega)) := List.getElem?_eq_getElem (by omega)
    rw [hx, ce] at h1
    obtain ⟨n, hn, _, hw⟩ := DataW.trod_int he h1
    have hb := bounds_u8 hw
    refine ⟨n, ?_, by omega, by omega⟩
    have hil : i < l.length := by simpa using (show i < l.toArray.size by rw [hsz]; exact hi)
    simp only [Value.cells, Nat.mul_one] at hn
    have h2 : (l.drop i).take 1 = [l[i]] := by rw [List.drop_eq_getElem_cons hil]; rfl
    rw [h2] at hn
    injection hn with hn
    rw [List.getElem?_eq_getElem hil, hn]
  have hch : ∃ K : Nat → Int, ∀ i, i < 16 → l[i]? = some (.int .u8 (K i)) ∧ 0 ≤ K i ∧ K i < 256 :=
    ⟨fun i => if hi : i < 16 then (each i hi).choose else 0, fun i hi => by simp only [dif_pos hi]; exact (each i hi).choose_spec⟩
  obtain ⟨K, hK⟩ := hch
  refine ⟨fun i => if i < 16 then K i else 0, ?_, fun i => ?_⟩
  · have hl : l.length = 16 := by simpa using hsz
    clear each hel hf
    revert hK
    match l, hl with
    | [c0, c1, c2, c3, c4, c5, c6, c7, c8, c9, c10, c11, c12, c13, c14, c15], _ =>
      intro hK
      have q : ∀ i, (hi : i < 16) → [c0, c1, c2, c3, c4, c5, c6, c7, c8, c9, c10, c11, c12, c13, c14, c15][i]? = some (.int .u8 (K i)) := fun i hi => (hK i hi).1
      have q0 := q 0 (by decide); have q1 := q 1 (by decide); have q2 := q 2 (by decide); have q3 := q 3 (by decide); have q4 := q 4 (by decide); have q5 := q 5 (by decide); have q6 := q 6 (by decide); have q7 := q 7 (by decide)
      have q8 := q 8 (by decide); have q9 := q 9 (by decide); have q10 := q 10 (by decide); have q11 := q 11 (by decide); have q12 := q 12 (by decide); have q13 := q 13 (by decide); have q14 := q 14 (by decide); have q15 := q 15 (by decide)
      simp at q0 q1 q2 q3 q4 q5 q6 q7 q8 q9 q10 q11 q12 q13 q14 q15
      subst q0 q1 q2 q3 q4 q5 q6 q7 q8 q9 q10 q11 q12 q13 q14 q15
      rfl
  · by_cases hi : i < 16
    · simp only [if_pos hi]; exact (hK i hi).2
    · simp [if_neg hi]
end Go.Proofs.Ytpfkhcgeblihcaa.Blk8

/-
  What a call leaves that writes one block of those that were there.
-/
namespace Go.Proofs.Ytpfkhcgeblihcaa.Seq8
open Go.ChangeShapes Go.WideShapes Go.ChangeAt Go.RowKit
open Bytes8 Blk8
set_option linter.unusedVariables false
set_option maxRecDepth 100000
set_option linter.unusedSimpArgs false

/-- Blocks below B, but g, are as they were. -/
structure KeptB (B g : Nat) (w w' : World) : Prop where
  os : w'.os = w.os
  tape : w'.tape = w.tape
  output : w'.output = w.output
  size : w.heap.size ≤ w'.heap.size
  block : ∀ k, k < B → k ≠ g → w'.heap[k]? = w.heap[k]?
theorem KeptB.of_below {B g : Nat} {w w' : World} (h : Below B w w') : KeptB B g w w' := ⟨h.os, h.tape, h.output, h.size, fun k hk _ => h.block k hk⟩
theorem KeptB.refl (B g : Nat) (w : World) : KeptB B g w w := KeptB.of_below (Below.refl B w)
theorem KeptB.trans {B g : Nat} {a b c : World} (h : KeptB B g a b) (k : KeptB B g b c) : KeptB B g a c :=
  ⟨k.os.trans h.os, k.tape.trans h.tape, k.output.trans h.output, Nat.le_trans h.size k.size, fun i hi hg => (k.block i hi hg).trans (h.block i hi hg)⟩
theorem KeptB.mono {B B' g : Nat} {w w' : World} (h : KeptB B g w w') (hB : B' ≤ B) : KeptB B' g w w' := ⟨h.os, h.tape, h.output, h.size, fun k hk hg => h.block k (Nat.lt_of_lt_of_le hk hB) hg⟩
theorem KeptB.below {B g : Nat} {w w' : World} (h : KeptB B g w w') (hg : B ≤ g) : Below B w w' := ⟨h.os, h.tape, h.output, h.size, fun k hk => h.block k hk (by omega)⟩
theorem KeptB.drewN {B g : Nat} {a w : World} (h : KeptB B g a w) (n : Nat) : KeptB B g a (w.drewN n) := ⟨h.os, h.tape, h.output, h.size, h.block⟩
theorem KeptB.drew {B g : Nat} {a w : World} (h : KeptB B g a w) : KeptB B g a w.drew := ⟨h.os, h.tape, h.output, h.size, h.block⟩
theorem KeptB.alloc {B g : Nat} {a w : World} (h : KeptB B g a w) (hB : B ≤ w.heap.size) (o : Obj) : KeptB B g a (w.alloc o) := h.trans (KeptB.of_below ((Below.refl B w).alloc hB o))
theorem KeptB.setCell {B g : Nat} {a w : World} (h : KeptB B g a w) {p : Addr} (hp : B ≤ p.block ∨ p.block = g) (u : Value) : KeptB B g a (w.setCell p u) :=
  h.trans ⟨rfl, rfl, rfl, by simp [World.setCell], fun k hk hg => Below.heap_setCell _ _ _ _ (by rcases hp with h | h <;> omega)⟩
theorem Blk.keptB {w w' : World} {B g k : Nat} {vs : List Value} {T : TypeId} (h : Blk w k vs T) (hk : KeptB B g w w') (h1 : k < B) (h2 : k ≠ g) : Blk w' k vs T := (hk.block k h1 h2).trans h
end Go.Proofs.Ytpfkhcgeblihcaa.Seq8

/-
  Texts as lists of numbers, plain.
-/
namespace Go.Proofs.Ytpfkhcgeblihcaa.Fa
open Go.ChangeShapes Go.WideShapes Go.ChangeAt Go.RowKit
open Bytes8 Blk8
set_option linter.unusedVariables false
set_option maxRecDepth 100000
set_option linter.unusedSimpArgs false

/-! ## texts as lists of numbers -/
abbrev T (l : List Int) : ByteArray := strOfNums l
def num (s : ByteArray) : List Int := s.toList.map fun c => (c.toNat : Int)
theorem T_toList (l : List Int) : (T l).toList = l.map fun n => n.toNat.toUInt8 := by
  show (strOfNums l).toList = _
  unfold strOfNums
  rw [ByteArray.toList_eq]
theorem num_len (s : ByteArray) : (num s).length = s.size := by
  unfold num; rw [List.length_map, ByteArray.toList_eq]; cases s; rfl
theorem num_all (s : ByteArray) : AllB (num s) := fun n hn => by
  obtain ⟨c, _, rfl⟩ := List.mem_map.1 hn
  have := c.toNat_lt
  constructor <;> omega
theorem T_size (l : List Int) : (T l).size = l.length := by
  have h := num_len (T l)
  rw [← h]; unfold num; rw [List.length_map, T_toList, List.length_map]
theorem T_num (s : ByteArray) : T (num s) = s := by
  have h : (T (num s)).toList = s.toList := by
    rw [T_toList]; unfold num; rw [List.map_map]
    conv => rhs; rw [← List.map_id s.toList]
    refine List.map_congr_left fun c _ => ?_
    simp
  rw [ByteArray.toList_eq, ByteArray.toList_eq] at h
  apply ByteArray.ext
  exact Array.toList_inj.1 h
theorem num_T {l : List Int} (h : AllB l) : num (T l) = l := by
  unfold num; rw [T_toList, List.map_map]
  conv => rhs; rw [← List.map_id l]
  refine List.map_congr_left fun n hn => ?_
  have := h n hn
  simp
  omega
theorem T_inj {l m : List Int} (hl : AllB l) (hm : AllB m) (h : T l = T m) : l = m := by
  rw [← num_T hl, ← num_T hm, h]
theorem T_app (l m : List Int) : T l ++ T m = T (l ++ m) := by
  apply ByteArray.ext
  rw [ByteArray.data_append]
  apply Array.toList_inj.1
  have e := T_toList l; have f := T_toList m; have g := T_toList (l ++ m)
  rw [ByteArray.toList_eq] at e f g
  rw [Array.toList_append, e, f, g, List.map_append]
theorem T_one : ({ data := #[61] } : ByteArray) = T [61] := by decide
theorem T_nil : ({ data := #[] } : ByteArray) = T [] := by decide
theorem T_cut (l : List Int) (a b : Nat) : (T l).extract a b = T ((l.drop a).take (b - a)) := by
  apply ByteArray.ext
  apply Array.toList_inj.1
  have e := T_toList l; have g := T_toList ((l.drop a).take (b - a))
  rw [ByteArray.toList_eq] at e g
  rw [g, ByteArray.data_extract, Array.toList_extract, e]
  simp [List.extract, List.map_take, List.map_drop]
theorem T_beq {l m : List Int} (hl : AllB l) (hm : AllB m) : ((T l).toList == (T m).toList) = decide (l = m) := by
  by_cases h : l = m
  · subst h; simp
  · have : (T l).toList ≠ (T m).toList := fun e => h (by
      rw [← num_T hl, ← num_T hm]; unfold num; rw [e])
    simp [h, this]
/-- A byte of a text. -/
theorem index_at (l : List Int) (h : AllB l) (i : Nat) (hi : i < l.length) (w : World) :
    (Instr.index 9 (.string (T l)) (.int .i64 (i : Int))).run Try.prog w = .ok (.int .u8 (l.getD i 0)) w := by
  rw [run_index_string w _ _ _ _ Try.underlying9]
  have hs : (i : Int) < ((T l).size : Int) := by rw [T_size]; omega
  have hsz : i < (T l).size := by rw [T_size]; exact hi
  have hlen : i < (T l).toList.length := by rw [T_toList, List.length_map]; exact hi
  rw [dif_pos ⟨by omega, hs⟩]
  have e1 : ((T l)[(i : Int).toNat]'(by simpa using hsz)) = (T l).toList[i]'hlen := by
    have : (T l).toList = (T l).data.toList := ByteArray.toList_eq _
    simp only [this]
    rfl
  rw [e1]
  have e2 : (T l).toList[i]'hlen = (l[i]).toNat.toUInt8 := by
    simp only [T_toList, List.getElem_map]
  rw [e2]
  have hv := h l[i] (List.getElem_mem hi)
  have e3 : l.getD i 0 = l[i] := by simp [List.getElem?_eq_getElem hi]
  rw [e3]
  have e4 : (((l[i]).toNat.toUInt8.toNat : Nat) : Int) = l[i] := by simp; omega
  rw [e4]
end Go.Proofs.Ytpfkhcgeblihcaa.Fa

/-
  Plain: what may be a field's name; a pair's payload; where a payload is cut.
-/
namespace Go.Proofs.Ytpfkhcgeblihcaa.Fa
open Go.ChangeShapes Go.WideShapes Go.ChangeAt Go.RowKit
open Bytes8 Blk8
set_option linter.unusedVariables false
set_option maxRecDepth 100000
set_option linter.unusedSimpArgs false

/-! ## names -/
def isDig (c : Int) : Bool := decide (48 ≤ c) && decide (c ≤ 57)
def isLet (c : Int) : Bool := decide (65 ≤ c) && decide (c ≤ 90)
def okC (c : Int) : Bool := isDig c || isLet c || decide (c = 95)
def nmB (l : List Int) : Bool := decide (1 ≤ l.length) && decide (l.length ≤ 64) && !(isDig (l.getD 0 0)) && l.all okC

theorem all_of {l : List Int} (h : ∀ j, j < l.length → okC (l.getD j 0) = true) : l.all okC = true := by
  rw [List.all_eq_true]
  intro x hx
  obtain ⟨j, hj, rfl⟩ := List.mem_iff_getElem.1 hx
  have := h j hj
  rwa [show l.getD j 0 = l[j] by simp [List.getElem?_eq_getElem hj]] at this
theorem of_all {l : List Int} (h : l.all okC = true) {j : Nat} (hj : j < l.length) : okC (l.getD j 0) = true := by
  rw [List.all_eq_true] at h
  have := h l[j] (List.getElem_mem hj)
  rwa [show l.getD j 0 = l[j] by simp [List.getElem?_eq_getElem hj]]
theorem nmB_no {l : List Int} {j : Nat} (hj : j < l.length) (h : okC (l.getD j 0) = false) : nmB l = false := by
  cases hn : nmB l with
  | false => rfl
  | true =>
    unfold nmB at hn
    simp only [Bool.and_eq_true] at hn
    rw [of_all hn.2 hj] at h; cases h
theorem nmB_yes {l : List Int} (h1 : 1 ≤ l.length) (h2 : l.length ≤ 64) (h3 : isDig (l.getD 0 0) = false) (h : ∀ j, j < l.length → okC (l.getD j 0) = true) : nmB l = true := by
  unfold nmB
  rw [decide_eq_true h1, decide_eq_true h2, h3, all_of h]
  rfl
theorem nmB_len {l : List Int} (h : nmB l = true) : 1 ≤ l.length ∧ l.length ≤ 64 := by
  unfold nmB at h; simp only [Bool.and_eq_true, decide_eq_true_eq] at h; exact h.1.1
theorem nmB_eq {l : List Int} (h : nmB l = true) : 61 ∉ l := fun hm => by
  unfold nmB at h
  simp only [Bool.and_eq_true] at h
  have := List.all_eq_true.1 h.2 61 hm
  revert this; decide

/-! ## pairs -/
/-- What Join tells of a pair. -/
def flawI (n v : List Int) : Int := if nmB n = true then (if 256 < v.length then 21 else 0) else 1
def pay (n v : List Int) : List Int := n ++ [61] ++ v
theorem pay_all {n v : List Int} (hn : AllB n) (hv : AllB v) : AllB (pay n v) := (hn.app (fun x hx => by simp at hx; subst hx; decide)).app hv
theorem pay_len (n v : List Int) : (pay n v).length = n.length + 1 + v.length := by unfold pay; simp; omega
/-- Where the first '=' is (behind the end: nowhere). -/
def cutI (l : List Int) : Nat := l.findIdx (· == 61)
theorem cutI_le (l : List Int) : cutI l ≤ l.length := List.findIdx_le_length
def splitE (l : List Int) : Int := if cutI l < l.length then (if nmB (l.take (cutI l)) = true then (if 256 < l.length - cutI l - 1 then 21 else 0) else 20) else 20
def splitN (l : List Int) : List Int := if splitE l = 0 then l.take (cutI l) else []
def splitV (l : List Int) : List Int := if splitE l = 0 then l.drop (cutI l + 1) else []
theorem splitN_all {l : List Int} (h : AllB l) : AllB (splitN l) := by
  unfold splitN; split
  · exact h.take _
  · intro x hx; cases hx
theorem splitV_all {l : List Int} (h : AllB l) : AllB (splitV l) := by
  unfold splitV; split
  · exact h.drop _
  · intro x hx; cases hx
theorem cutI_at {l : List Int} (h : cutI l < l.length) : l.getD (cutI l) 0 = 61 := by
  have := List.findIdx_getElem (p := (· == (61 : Int))) (xs := l) (w := h)
  simp only [beq_iff_eq] at this
  rw [show l.getD (cutI l) 0 = l[cutI l] by simp [List.getElem?_eq_getElem h]]
  exact this
theorem cutI_before {l : List Int} {j : Nat} (h : j < cutI l) : l.getD j 0 ≠ 61 := by
  have hj : j < l.length := Nat.lt_of_lt_of_le h (cutI_le l)
  have := List.not_of_lt_findIdx (p := (· == (61 : Int))) (xs := l) h
  simp only [beq_eq_false_iff_ne, ne_eq, Bool.not_eq_true] at this
  rw [show l.getD j 0 = l[j] by simp [List.getElem?_eq_getElem hj]]
  simpa using this
theorem cutI_is {l : List Int} {k : Nat} (hk : k < l.length) (h1 : l.getD k 0 = 61) (h2 : ∀ j, j < k → l.getD j 0 ≠ 61) : cutI l = k := by
  have hle : cutI l ≤ k := by
    rcases Nat.lt_or_ge k (cutI l) with h | h
    · exact absurd h1 (cutI_before h)
    · exact h
  rcases Nat.lt_or_ge (cutI l) k with h | h
  · exact absurd (cutI_at (Nat.lt_trans h hk)) (h2 _ h)
  · omega
theorem cutI_none {l : List Int} (h2 : ∀ j, j < l.length → l.getD j 0 ≠ 61) : cutI l = l.length := by
  rcases Nat.lt_or_ge (cutI l) l.length with h | h
  · exact absurd (cutI_at h) (h2 _ h)
  · have := cutI_le l; omega

/-- What is joined is split: the pair. -/
theorem split_pay {n v : List Int} (h : flawI n v = 0) : splitE (pay n v) = 0 ∧ splitN (pay n v) = n ∧ splitV (pay n v) = v := by
  unfold flawI at h
  by_cases hn : nmB n = true
  · rw [if_pos hn] at h
    have hv : ¬ 256 < v.length := by intro hv; rw [if_pos hv] at h; cases h
    have hc : cutI (pay n v) = n.length := by
      refine cutI_is (by rw [pay_len]; omega) ?_ fun j hj => ?_
      · unfold pay; simp
      · have : (pay n v).getD j 0 = n[j] := by unfold pay; simp [List.getElem?_append, hj]
        rw [this]
        intro e
        exact nmB_eq hn (e ▸ List.getElem_mem hj)
    have ht : (pay n v).take n.length = n := by unfold pay; simp
    have hd : (pay n v).drop (n.length + 1) = v := by unfold pay; simp
    have he : splitE (pay n v) = 0 := by
      unfold splitE
      rw [hc, if_pos (by rw [pay_len]; omega), ht, if_pos hn, if_neg (by rw [pay_len]; omega)]
    refine ⟨he, ?_, ?_⟩
    · unfold splitN; rw [if_pos he, hc, ht]
    · unfold splitV; rw [if_pos he, hc, hd]
  · rw [if_neg hn] at h; cases h
/-- What is split is what its pair makes. -/
theorem pay_split {l : List Int} (h : splitE l = 0) : flawI (splitN l) (splitV l) = 0 ∧ pay (splitN l) (splitV l) = l := by
  have hh := h
  unfold splitE at h
  by_cases h1 : cutI l < l.length
  · rw [if_pos h1] at h
    by_cases h2 : nmB (l.take (cutI l)) = true
    · rw [if_pos h2] at h
      have h3 : ¬ 256 < l.length - cutI l - 1 := by intro h3; rw [if_pos h3] at h; cases h
      have e1 : splitN l = l.take (cutI l) := by unfold splitN; rw [if_pos hh]
      have e2 : splitV l = l.drop (cutI l + 1) := by unfold splitV; rw [if_pos hh]
      constructor
      · unfold flawI; rw [e1, e2, if_pos h2, if_neg (by rw [List.length_drop]; omega)]
      · rw [e1, e2]; unfold pay
        have h4 := cutI_at h1
        rw [show l.getD (cutI l) 0 = l[cutI l] by simp [List.getElem?_eq_getElem h1]] at h4
        rw [List.append_assoc, ← h4]
        show l.take (cutI l) ++ (l[cutI l] :: l.drop (cutI l + 1)) = l
        rw [← List.drop_eq_getElem_cons h1, List.take_append_drop]
    · rw [if_neg h2] at h; cases h
  · rw [if_neg h1] at h; cases h
theorem split_not {l : List Int} (h : splitE l ≠ 0) : splitN l = [] ∧ splitV l = [] := by
  unfold splitN splitV; rw [if_neg h, if_neg h]; exact ⟨rfl, rfl⟩

/-! ## the walk's words -/
abbrev pv (n v : List Int) : Value := .agg #[.string (T n), .string (T v)]
theorem eql_pair {n v m u : List Int} (hn : AllB n) (hv : AllB v) (hm : AllB m) (hu : AllB u) (w : World) :
    (binOp .eql 40 (pv n v) (pv m u)).run Try.prog w = .ok (.bool (decide (n = m ∧ v = u))) w := by
  have a9 := Try.isAgg9
  have z9 := Try.sizeOf9
  have hS : Try.prog.underlying 40 = some (.struct (Try.prog.fieldsOf 40)) := by kernel_rfl
  have hp : Try.prog.stoodInHeld 40 = false := by kernel_rfl
  have b1 := T_beq hn hm
  have b2 := T_beq hv hu
  rw [run_eql_struct, show (10000 : Nat) = 9999 + 1 from rfl, run_equalIn_agg w 9999 _ _ _ hS hp]
  simp only [Program.fieldsOf, Try.underlying40]
  generalize T n = S1 at *
  generalize T v = S2 at *
  generalize T m = S3 at *
  generalize T u = S4 at *
  go_simp
  by_cases h1 : n = m <;> by_cases h2 : v = u <;> simp [h1, h2] at b1 b2 ⊢ <;> simp [b1, b2]
theorem neq_pair {n v m u : List Int} (hn : AllB n) (hv : AllB v) (hm : AllB m) (hu : AllB u) (w : World) :
    (binOp .neq 40 (pv n v) (pv m u)).run Try.prog w = .ok (.bool (!(decide (n = m ∧ v = u)))) w := by
  have a9 := Try.isAgg9
  have z9 := Try.sizeOf9
  have hS : Try.prog.underlying 40 = some (.struct (Try.prog.fieldsOf 40)) := by kernel_rfl
  have hp : Try.prog.stoodInHeld 40 = false := by kernel_rfl
  have b1 := T_beq hn hm
  have b2 := T_beq hv hu
  rw [run_neq_struct, show (10000 : Nat) = 9999 + 1 from rfl, run_equalIn_agg w 9999 _ _ _ hS hp]
  simp only [Program.fieldsOf, Try.underlying40]
  generalize T n = S1 at *
  generalize T v = S2 at *
  generalize T m = S3 at *
  generalize T u = S4 at *
  go_simp
  by_cases h1 : n = m <;> by_cases h2 : v = u <;> simp [h1, h2] at b1 b2 ⊢ <;> simp [b1, b2]
end Go.Proofs.Ytpfkhcgeblihcaa.Fa

/-
  The order of rows of numbers, plain; of texts.
-/
namespace Go.Proofs.Ytpfkhcgeblihcaa.Fo
open Go.ChangeShapes Go.WideShapes Go.ChangeAt Go.RowKit
open Bytes8 Blk8 Fa
set_option linter.unusedVariables false
set_option maxRecDepth 100000
set_option linter.unusedSimpArgs false

/-- Numbers one by one: which row is ahead. -/
def ltL : List Int → List Int → Bool
  | _, [] => false
  | [], _ :: _ => true
  | a :: r, b :: q => if a < b then true else if b < a then false else ltL r q
theorem ltL_irrefl : ∀ l, ltL l l = false
  | [] => rfl
  | a :: l => by simp [ltL, ltL_irrefl l]
theorem ltL_trans : ∀ a b c, ltL a b = true → ltL b c = true → ltL a c = true
  | [], [], _, h, _ => by simp [ltL] at h
  | _ :: _, [], _, h, _ => by simp [ltL] at h
  | _, _ :: _, [], _, h => by simp [ltL] at h
  | [], _ :: _, _ :: _, _, _ => rfl
  | x :: a, y :: b, z :: c, h, k => by
    unfold ltL at h k ⊢
    by_cases h1 : x < y
    · by_cases k1 : y < z
      · rw [if_pos (by omega)]
      · rw [if_neg k1] at k
        by_cases k2 : z < y
        · rw [if_pos k2] at k; cases k
        · rw [if_pos (by omega)]
    · rw [if_neg h1] at h
      by_cases h2 : y < x
      · rw [if_pos h2] at h; cases h
      · rw [if_neg h2] at h
        by_cases k1 : y < z
        · rw [if_pos (by omega)]
        · rw [if_neg k1] at k
          by_cases k2 : z < y
          · rw [if_pos k2] at k; cases k
          · rw [if_neg k2] at k
            rw [if_neg (by omega), if_neg (by omega)]
            exact ltL_trans a b c h k
theorem ltL_total : ∀ a b, ltL a b = false → ltL b a = false → a = b
  | [], [], _, _ => rfl
  | [], _ :: _, h, _ => by simp [ltL] at h
  | _ :: _, [], _, k => by simp [ltL] at k
  | x :: a, y :: b, h, k => by
    unfold ltL at h k
    by_cases h1 : x < y
    · rw [if_pos h1] at h; cases h
    · by_cases h2 : y < x
      · rw [if_pos h2] at k; cases k
      · rw [if_neg h1, if_neg h2] at h
        rw [if_neg h2, if_neg h1] at k
        have : x = y := by omega
        rw [this, ltL_total a b h k]
theorem ltL_asymm (a b : List Int) (h : ltL a b = true) : ltL b a = false := by
  cases k : ltL b a with
  | false => rfl
  | true => rw [← ltL_irrefl a, ltL_trans a b a h k]
theorem u8_lt {x y : Int} (hx : 0 ≤ x ∧ x < 256) (hy : 0 ≤ y ∧ y < 256) : (x.toNat.toUInt8 < y.toNat.toUInt8) = (x < y) := by
  rw [UInt8.lt_iff_toNat_lt]
  simp
  omega
theorem u8_eq {x y : Int} (hx : 0 ≤ x ∧ x < 256) (hy : 0 ≤ y ∧ y < 256) : (x.toNat.toUInt8 == y.toNat.toUInt8) = decide (x = y) := by
  by_cases h : x = y
  · simp [h]
  · have : x.toNat.toUInt8 ≠ y.toNat.toUInt8 := fun e => h (by
      have := congrArg UInt8.toNat e
      simp at this
      omega)
    simp only [beq_eq_false_iff_ne.2 this, h, decide_false]
theorem less_nums : ∀ l m, AllB l → AllB m → Op.bytesLess (l.map fun n => n.toNat.toUInt8) (m.map fun n => n.toNat.toUInt8) = ltL l m
  | [], [], _, _ => rfl
  | [], _ :: _, _, _ => rfl
  | _ :: _, [], _, _ => rfl
  | x :: l, y :: m, hl, hm => by
    have ih := less_nums l m (fun n hn => hl n (by simp [hn])) (fun n hn => hm n (by simp [hn]))
    have hx := hl x (by simp)
    have hy := hm y (by simp)
    simp only [List.map_cons, Op.bytesLess, ltL, u8_lt hx hy, u8_eq hx hy, ih]
    by_cases h1 : x < y
    · simp [h1]
    · by_cases h2 : y < x
      · have h3 : ¬ x = y := by omega
        simp [h1, h2, h3]
      · have h3 : x = y := by omega
        simp [h3]
theorem bytesLess_T {l m : List Int} (hl : AllB l) (hm : AllB m) : Op.bytesLess (T l).toList (T m).toList = ltL l m := by
  rw [T_toList, T_toList]; exact less_nums l m hl hm
end Go.Proofs.Ytpfkhcgeblihcaa.Fo

/-
  Two rows of bytes held against each other; bytes out of a literal.
-/
namespace Go.Proofs.Ytpfkhcgeblihcaa.Ff
open Go.ChangeShapes Go.WideShapes Go.ChangeAt Go.RowKit
open Bytes8 Blk8 Fa
set_option linter.unusedVariables false
set_option maxRecDepth 100000
set_option linter.unusedSimpArgs false

theorem const_bytes (l : List Int) (hA : AllB l) (w : World) (M : Nat × Nat) : Bytes (w.alloc (.cells (l.map (Value.int .u8)).toArray 5 M)) (some ⟨w.heap.size, 0, none⟩) l := by
  refine ⟨hA, fun i hi => ⟨w.heap.size, 0, rfl, by simp, ?_⟩⟩
  rw [Nat.zero_add, World.cell?_alloc_mark, List.getElem?_toArray, List.getElem?_map, List.getElem?_eq_getElem hi]
  simp [List.getElem?_eq_getElem hi]
theorem small_all {l : List Int} (h : l.all (fun x => decide (0 ≤ x) && decide (x < 256)) = true) : AllB l := fun n hn => by
  have := List.all_eq_true.1 h n hn
  simpa using this
end Go.Proofs.Ytpfkhcgeblihcaa.Ff
