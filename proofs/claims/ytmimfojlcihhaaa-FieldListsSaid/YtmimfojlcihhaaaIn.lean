/-
  A pair of texts that came in by value; a slice of pairs that came in.
-/
import Derived.Test.YtmimfojlcihhaaaFa
import Derived.Lib.SmallJoins
import Derived.Deep.SlicePairs
namespace Go.Proofs.Ytmimfojlcihhaaa.In8
open Go.ChangeShapes Go.WideShapes Go.ChangeAt Go.RowKit Go.Deep
open Bytes8 Blk8 Fa
set_option linter.unusedVariables false
set_option linter.unusedSimpArgs false

theorem text_of {s : ByteArray} : ∃ l, s = T l ∧ AllB l := ⟨num s, (T_num s).symm, num_all s⟩

theorem pair_of_trod {H : Type} {enc : TypeId × Value → H} {P : Program} {w : World} {base b0 : Nat} {held : Bool} {r : Reach} {spare : Nat → Bool} {t : TypeId} {f0 f1 : Field} {v : Value} {d : DataW H} {p : List MemPlace}
    (ht : P.underlying t = some (.struct #[f0, f1])) (hone : oneCellFields P #[f0, f1] = true) (hC : P.cellsOf t = 2) (h0 : P.underlying f0.type = some .string) (h1 : P.underlying f1.type = some .string)
    (hv : Value.okWide P w r b0 t v) (h : DataW.Trod enc P w base spare held t v d p) : ∃ n m, v = pv n m ∧ AllB n ∧ AllB m := by
  obtain ⟨v0, v1, y0, y1, k, rfl, _, _, t0, t1⟩ := Go.Joins.open_agg2 ht hone hC hv h
  obtain ⟨s0, e0, _⟩ := DataW.trod_string h0 t0
  obtain ⟨s1, e1, _⟩ := DataW.trod_string h1 t1
  injection e0 with e0
  injection e1 with e1
  subst e0; subst e1
  obtain ⟨n, rfl, hn⟩ := text_of (s := s0)
  obtain ⟨m, rfl, hm⟩ := text_of (s := s1)
  exact ⟨n, m, rfl, hn, hm⟩

/-- Pairs of texts that can be read from an address on. -/
def InPairs (w : World) (a : Option Addr) (len : Nat) (N V : Nat → List Int) : Prop :=
  ∀ i, i < len → ∃ b off, a = some ⟨b, off, none⟩ ∧ b < w.heap.size ∧ w.cell? ⟨b, off + i * 2, none⟩ = some (.string (T (N i))) ∧ w.cell? ⟨b, off + i * 2 + 1, none⟩ = some (.string (T (V i))) ∧ AllB (N i) ∧ AllB (V i) ∧ (N i).length ≤ maxLen ∧ (V i).length ≤ maxLen
theorem InPairs.below {w w' : World} {a : Option Addr} {len : Nat} {N V : Nat → List Int} (h : InPairs w a len N V) (hb : Below w.heap.size w w') : InPairs w' a len N V := fun i hi => by
  obtain ⟨b, off, e, h1, h2, h3, h4⟩ := h i hi
  exact ⟨b, off, e, Nat.lt_of_lt_of_le h1 hb.size, (hb.cell (p := ⟨b, off + i * 2, none⟩) h1).trans h2, (hb.cell (p := ⟨b, off + i * 2 + 1, none⟩) h1).trans h3, h4⟩

theorem pairs_of_trod {H : Type} {enc : TypeId × Value → H} {P : Program} {w : World} {base : Nat} {held : Bool} {t e : TypeId} {f0 f1 : Field} {a : Option Addr} {len cap : Nat} {d : DataW H} {p : List MemPlace}
    (ht : P.underlying t = some (.slice e)) (he : P.underlying e = some (.struct #[f0, f1])) (ce : P.cellsOf e = 2) (o0 : f0.offset = 0) (o1 : f1.offset = 1) (c0 : P.cellsOf f0.type = 1) (c1 : P.cellsOf f1.type = 1) (h0 : P.underlying f0.type = some .string) (h1 : P.underlying f1.type = some .string)
    (h : DataW.Trod enc P w base (fun _ => true) held t (.slice a len cap) d p) : ∃ N V, InPairs w a len N V ∧ len ≤ cap ∧ cap ≤ maxLen := by
  obtain ⟨fuel, hf⟩ := h
  rcases open_slice_pairs ht he ce o0 o1 c0 c1 hf with ⟨hcs, _⟩ | ⟨x, l, c, m, n, V0, V1, D0, D1, P0, P1, hcs, _, hl, hm, hmm, _, hel⟩
  · simp [Value.cells] at hcs
    obtain ⟨rfl, rfl, rfl⟩ := hcs
    exact ⟨fun _ => [], fun _ => [], fun i hi => absurd hi (by omega), Nat.le_refl _, by decide⟩
  · simp [Value.cells] at hcs
    obtain ⟨rfl, e1, e2⟩ := hcs
    subst e1 e2
    simp at hmm
    have each : ∀ i, i < cap → ∃ q : List Int × List Int, V0 i = .string (T q.1) ∧ V1 i = .string (T q.2) ∧ AllB q.1 ∧ AllB q.2 ∧ q.1.length ≤ maxLen ∧ q.2.length ≤ maxLen := by
      intro i hi
      obtain ⟨_, _, t0, t1⟩ := hel i (by omega)
      obtain ⟨s0, e0, _, z0⟩ := DataW.trod_string h0 t0
      obtain ⟨s1, e1, _, z1⟩ := DataW.trod_string h1 t1
      injection e0 with e0
      injection e1 with e1
      obtain ⟨n, rfl, hn⟩ := text_of (s := s0)
      obtain ⟨m, rfl, hm⟩ := text_of (s := s1)
      rw [T_size] at z0 z1
      exact ⟨(n, m), e0, e1, hn, hm, z0, z1⟩
    obtain ⟨q, hq⟩ := choose_lt each
    refine ⟨fun i => (q i).1, fun i => (q i).2, fun i hi => ?_, hl, hm⟩
    obtain ⟨hc0, hc1, _, _⟩ := hel i (by omega)
    obtain ⟨g0, g1, ha⟩ := hq i (by omega)
    obtain ⟨b, off, spot⟩ := x
    have hspot : spot = none := by
      obtain ⟨z0, _⟩ := hel 0 (by omega)
      simpa [Addr.add] using World.cell?_spot z0
    subst hspot
    have hlt := bounds_of_cell hc0
    rw [add_none] at hc0 hc1 hlt
    exact ⟨b, off, rfl, hlt, by rw [hc0, g0], by rw [Nat.add_assoc, hc1, g1], ha⟩
end Go.Proofs.Ytmimfojlcihhaaa.In8
