/-
  Words for a slice of slices of bytes that came in: each row's bytes, and all of them one behind the other.
-/
import Derived.Test.YtekmbgcijkdkfaaBlk
import Derived.Test.YtekmbgcijkdkfaaOwn
namespace Go.Proofs.Ytekmbgcijkdkfaa.Rows2
open Go.ChangeShapes Go.WideShapes Go.ChangeAt Go.RowKit
open Bytes8 Blk8 Own8
set_option linter.unusedVariables false
set_option maxRecDepth 100000

def InRows (w : World) (a : Option Addr) (len : Nat) (A : Nat → Option Addr) (L C : Nat → Nat) (P : Nat → List Int) : Prop :=
  ∀ r, r < len → ∃ b off, a = some ⟨b, off, none⟩ ∧ b < w.heap.size ∧ w.cell? ⟨b, off + r, none⟩ = some (.slice (A r) (L r) (C r)) ∧ Bytes w (A r) (P r) ∧ (P r).length = L r ∧ L r ≤ C r ∧ C r ≤ maxLen
theorem InRows.below {w w' : World} {a : Option Addr} {len : Nat} {A : Nat → Option Addr} {L C : Nat → Nat} {P : Nat → List Int} (h : InRows w a len A L C P) (hb : Below w.heap.size w w') : InRows w' a len A L C P := fun r hr => by
  obtain ⟨b, off, e, h1, h2, h3, h4⟩ := h r hr
  exact ⟨b, off, e, Nat.lt_of_lt_of_le h1 hb.size, (hb.cell (p := ⟨b, off + r, none⟩) h1).trans h2, h3.below hb (Nat.le_refl _), h4⟩

theorem rows_in {w : World} {a : Option Addr} {len cap : Nat} {A : Nat → Option Addr} {L C : Nat → Nat} {Z : Nat → List Int} (h : IsRows .u8 w a len cap A L C Z) :
    InRows w a len A L C (fun r => (Z r).take (L r)) ∧ len ≤ cap ∧ cap ≤ maxLen := by
  rcases h with ⟨rfl, rfl, rfl⟩ | ⟨x, rfl, hl, hm, hr⟩
  · exact ⟨fun r hr => absurd hr (by omega), Nat.le_refl _, by decide⟩
  · refine ⟨fun r hrl => ?_, hl, hm⟩
    obtain ⟨hc, hrow⟩ := hr r (by omega)
    obtain ⟨hb, hL, hcap, hmax, _⟩ := hrow.bytes
    obtain ⟨b, off, spot⟩ := x
    have hspot : spot = none := by
      have h0 := (hr 0 (by omega)).1
      simpa [Addr.add] using World.cell?_spot h0
    subst hspot
    have hlt := bounds_of_cell hc
    rw [add_none] at hc hlt
    exact ⟨b, off, rfl, hlt, hc, hb, hL, hcap, hmax⟩

/-- The rows up to the k-th, one behind the other. -/
def flat (P : Nat → List Int) (k : Nat) : List Int := ((List.range k).map P).flatten
theorem flat_zero (P : Nat → List Int) : flat P 0 = [] := rfl
theorem flat_succ (P : Nat → List Int) (k : Nat) : flat P (k + 1) = flat P k ++ P k := by simp [flat, List.range_succ]
theorem le_step {L : Nat → Nat} {k B : Nat} (h : ∀ r, r < k → L r ≤ B) (hk : L k ≤ B) : ∀ r, r < k + 1 → L r ≤ B := fun r hr => by
  rcases Nat.lt_or_ge r k with h1 | h1
  · exact h r h1
  · obtain rfl : r = k := by omega
    exact hk
/-- A slice of integers that came in, each cell by its place. -/
def InInts (k : IntKind) (w : World) (a : Option Addr) (len : Nat) (f : Nat → Int) : Prop :=
  ∀ i, i < len → ∃ b off, a = some ⟨b, off, none⟩ ∧ b < w.heap.size ∧ w.cell? ⟨b, off + i, none⟩ = some (.int k (f i)) ∧ (Lit.int k (f i)).wf = true
theorem InInts.below {k : IntKind} {w w' : World} {a : Option Addr} {len : Nat} {f : Nat → Int} (h : InInts k w a len f) (hb : Below w.heap.size w w') : InInts k w' a len f := fun i hi => by
  obtain ⟨b, off, e, h1, h2, h3⟩ := h i hi
  exact ⟨b, off, e, Nat.lt_of_lt_of_le h1 hb.size, (hb.cell (p := ⟨b, off + i, none⟩) h1).trans h2, h3⟩
theorem ints_in {k : IntKind} {w : World} {a : Option Addr} {len cap : Nat} {zs : List Int} (h : IsRow k w a len cap zs) : InInts k w a len (fun i => zs.getD i 0) ∧ len ≤ cap ∧ cap ≤ maxLen := by
  rcases h with ⟨rfl, rfl, rfl, rfl⟩ | ⟨x, rfl, hl, hm, hz, hcell, hwz⟩
  · exact ⟨fun i hi => absurd hi (by omega), Nat.le_refl _, by decide⟩
  · refine ⟨fun i hi => ?_, hl, hm⟩
    have hc := hcell i (by omega)
    obtain ⟨b, off, spot⟩ := x
    have hspot : spot = none := by
      have h0 := hcell 0 (by omega)
      simpa [Addr.add] using World.cell?_spot h0
    subst hspot
    have hlt := bounds_of_cell hc
    rw [add_none] at hc hlt
    refine ⟨b, off, rfl, hlt, hc, hwz _ ?_⟩
    show zs.getD i 0 ∈ zs
    rw [List.getD_eq_getElem?_getD, List.getElem?_eq_getElem (show i < zs.length by omega)]
    exact List.getElem_mem _
end Go.Proofs.Ytekmbgcijkdkfaa.Rows2
