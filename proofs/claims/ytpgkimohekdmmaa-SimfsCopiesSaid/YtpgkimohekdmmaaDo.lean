/-
  A slice of bools that came in; a slice of structs of five fields that came in: three integers, bytes, bools.
-/
import Derived.Test.YtpgkimohekdmmaaBlk
import Derived.Deep.Grids
namespace Go.Proofs.Ytpgkimohekdmmaa.Do8
open Go.ChangeShapes Go.WideShapes Go.ChangeAt Go.RowKit Go.Deep
open Bytes8 Blk8
set_option linter.unusedVariables false
set_option maxRecDepth 100000
set_option linter.unusedSimpArgs false

/-- What is told of a slice of bools that came in. -/
def InBools (w : World) (a : Option Addr) (len : Nat) (B : Nat → Bool) : Prop :=
  ∀ i, i < len → ∃ b off, a = some ⟨b, off, none⟩ ∧ b < w.heap.size ∧ w.cell? ⟨b, off + i, none⟩ = some (.bool (B i))
theorem InBools.below {w w' : World} {a : Option Addr} {len : Nat} {B : Nat → Bool} (h : InBools w a len B) (hb : Below w.heap.size w w') : InBools w' a len B := fun i hi => by
  obtain ⟨b, off, e, h1, h2⟩ := h i hi
  exact ⟨b, off, e, Nat.lt_of_lt_of_le h1 hb.size, (hb.cell (p := ⟨b, off + i, none⟩) h1).trans h2⟩

section
variable {H : Type} {enc : TypeId × Value → H} {P : Program} {w : World} {base : Nat} {held : Bool}

theorem bools_of_cell {t e : TypeId} {fuel : Nat} {v : Value} {x : DataW H × List MemPlace} (ht : P.underlying t = some (.slice e)) (he : P.underlying e = some .bool) (hc : P.cellsOf e = 1)
    (h : DataW.trod enc P w base (fun _ => true) held fuel t [v] = some x) : ∃ a len cap B, v = .slice a len cap ∧ InBools w a len B ∧ len ≤ cap ∧ cap ≤ maxLen := by
  rcases open_bools ht he hc h with ⟨hcs, _⟩ | ⟨a, len, cap, B, hcs, _, hl, hm, _, hel⟩
  · simp at hcs
    exact ⟨none, 0, 0, fun _ => false, hcs, fun i hi => absurd hi (by omega), Nat.le_refl _, by decide⟩
  · simp at hcs
    refine ⟨some a, len, cap, B, hcs, fun i hi => ?_, hl, hm⟩
    have hci := hel i (by omega)
    obtain ⟨b, off, spot⟩ := a
    have hspot : spot = none := by
      have h0 := hel 0 (by omega)
      simpa [Addr.add] using World.cell?_spot h0
    subst hspot
    have hlt := bounds_of_cell hci
    rw [add_none] at hci hlt
    exact ⟨b, off, rfl, hlt, hci⟩

theorem row_of_cell {t e : TypeId} {k : IntKind} {fuel : Nat} {v : Value} {x : DataW H × List MemPlace} (ht : P.underlying t = some (.slice e)) (he : P.underlying e = some (.int k)) (hc : P.cellsOf e = 1)
    (h : DataW.trod enc P w base (fun _ => true) held fuel t [v] = some x) : ∃ a len cap zs, v = .slice a len cap ∧ IsRow k w a len cap zs := by
  rcases open_ints ht he hc h with ⟨hcs, _⟩ | ⟨x, l, c, zs, hcs, _, hl, hm, hz, _, hcell, hwz⟩
  · simp at hcs
    exact ⟨none, 0, 0, [], hcs, .inl ⟨rfl, rfl, rfl, rfl⟩⟩
  · simp at hcs
    exact ⟨some x, l, c, zs, hcs, .inr ⟨_, rfl, hl, hm, by simpa using hz, hcell, hwz⟩⟩

/-- What one element is. -/
structure DoV where
  kind : Int
  at_ : Int
  n : Int
  A1 : Option Addr
  L1 : Nat
  C1 : Nat
  Z1 : List Int
  A2 : Option Addr
  L2 : Nat
  C2 : Nat
  K : Nat → Bool
instance : Inhabited DoV := ⟨⟨0, 0, 0, none, 0, 0, [], none, 0, 0, fun _ => false⟩⟩

def DoOk (w : World) (d : DoV) : Prop :=
  (Lit.int .i64 d.kind).wf = true ∧ (Lit.int .i64 d.at_).wf = true ∧ (Lit.int .i64 d.n).wf = true ∧ IsRow .u8 w d.A1 d.L1 d.C1 d.Z1 ∧ InBools w d.A2 d.L2 d.K ∧ d.L2 ≤ d.C2 ∧ d.C2 ≤ maxLen

/-- Such structs can be read from an address on. -/
def InDos (w : World) (a : Option Addr) (len : Nat) (D : Nat → DoV) : Prop :=
  ∀ i, i < len → ∃ b off, a = some ⟨b, off, none⟩ ∧ b < w.heap.size ∧ w.cell? ⟨b, off + i * 5, none⟩ = some (.int .i64 (D i).kind) ∧ w.cell? ⟨b, off + i * 5 + 1, none⟩ = some (.int .i64 (D i).at_) ∧ w.cell? ⟨b, off + i * 5 + 2, none⟩ = some (.int .i64 (D i).n)
    ∧ w.cell? ⟨b, off + i * 5 + 3, none⟩ = some (.slice (D i).A1 (D i).L1 (D i).C1) ∧ w.cell? ⟨b, off + i * 5 + 4, none⟩ = some (.slice (D i).A2 (D i).L2 (D i).C2) ∧ DoOk w (D i)

theorem isRow_below {k : IntKind} {w w' : World} {a : Option Addr} {len cap : Nat} {zs : List Int} (h : IsRow k w a len cap zs) (hb : Below w.heap.size w w') : IsRow k w' a len cap zs := by
  rcases h with h | ⟨x, e, h1, h2, h3, h4, h5⟩
  · exact .inl h
  · exact .inr ⟨x, e, h1, h2, h3, fun i hi => (hb.cell (bounds_of_cell (h4 i hi))).trans (h4 i hi), h5⟩
theorem DoOk.below {w w' : World} {d : DoV} (h : DoOk w d) (hb : Below w.heap.size w w') : DoOk w' d :=
  ⟨h.1, h.2.1, h.2.2.1, isRow_below h.2.2.2.1 hb, h.2.2.2.2.1.below hb, h.2.2.2.2.2⟩
theorem InDos.below {w w' : World} {a : Option Addr} {len : Nat} {D : Nat → DoV} (h : InDos w a len D) (hb : Below w.heap.size w w') : InDos w' a len D := fun i hi => by
  obtain ⟨b, off, e, h1, c0, c1, c2, c3, c4, h4⟩ := h i hi
  have H : ∀ j, w'.cell? ⟨b, j, none⟩ = w.cell? ⟨b, j, none⟩ := fun j => hb.cell (p := ⟨b, j, none⟩) h1
  exact ⟨b, off, e, Nat.lt_of_lt_of_le h1 hb.size, (H _).trans c0, (H _).trans c1, (H _).trans c2, (H _).trans c3, (H _).trans c4, h4.below hb⟩

theorem dos_of_trod {t e q qb : TypeId} {f0 f1 f2 f3 f4 : Field} {a : Option Addr} {len cap : Nat} {d : DataW H} {p : List MemPlace}
    (ht : P.underlying t = some (.slice e)) (he : P.underlying e = some (.struct #[f0, f1, f2, f3, f4])) (ce : P.cellsOf e = 5) (o0 : f0.offset = 0) (o1 : f1.offset = 1) (o2 : f2.offset = 2) (o3 : f3.offset = 3) (o4 : f4.offset = 4)
    (c0 : P.cellsOf f0.type = 1) (c1 : P.cellsOf f1.type = 1) (c2 : P.cellsOf f2.type = 1) (c3 : P.cellsOf f3.type = 1) (c4 : P.cellsOf f4.type = 1)
    (h0 : P.underlying f0.type = some (.int .i64)) (h1 : P.underlying f1.type = some (.int .i64)) (h2 : P.underlying f2.type = some (.int .i64)) (h3 : P.underlying f3.type = some (.slice q)) (hq : P.underlying q = some (.int .u8)) (cq : P.cellsOf q = 1)
    (h4 : P.underlying f4.type = some (.slice qb)) (hqb : P.underlying qb = some .bool) (cqb : P.cellsOf qb = 1)
    (h : DataW.Trod enc P w base (fun _ => true) held t (.slice a len cap) d p) : ∃ D, InDos w a len D ∧ len ≤ cap ∧ cap ≤ maxLen := by
  obtain ⟨fuel, hf⟩ := h
  rcases open_slice ht hf with ⟨hcs, _⟩ | ⟨x, l, c, m, n, D, Pl, hcs, _, hl, hm, hmm, _, hx⟩
  · simp [Value.cells] at hcs
    obtain ⟨rfl, rfl, rfl⟩ := hcs
    exact ⟨fun _ => default, fun i hi => absurd hi (by omega), Nat.le_refl _, by decide⟩
  · simp [Value.cells] at hcs
    obtain ⟨rfl, e1, e2⟩ := hcs
    subst e1 e2
    simp at hmm
    have each : ∀ i, i < cap → ∃ q : DoV, w.cell? (x.add (i * 5)) = some (.int .i64 q.kind) ∧ w.cell? (x.add (i * 5 + 1)) = some (.int .i64 q.at_) ∧ w.cell? (x.add (i * 5 + 2)) = some (.int .i64 q.n)
        ∧ w.cell? (x.add (i * 5 + 3)) = some (.slice q.A1 q.L1 q.C1) ∧ w.cell? (x.add (i * 5 + 4)) = some (.slice q.A2 q.L2 q.C2) ∧ DoOk w q := by
      intro i hi
      obtain ⟨cs', g1, g2⟩ := hx i (by omega)
      rw [ce] at g1
      obtain ⟨_, hlen, hcell⟩ := World.cells?_some g1
      obtain ⟨xs, k, hk, hxy, _, hxl, hfd⟩ := DataW.trod_struct he g2
      match xs, hxl, cs', hlen with
      | [y0, y1, y2, y3, y4], _, [v0, v1, v2, v3, v4], _ =>
        have t0 := hfd 0 f0 rfl
        have t1 := hfd 1 f1 rfl
        have t2 := hfd 2 f2 rfl
        have t3 := hfd 3 f3 rfl
        have t4 := hfd 4 f4 rfl
        simp [o0, c0] at t0
        simp [o1, c1] at t1
        simp [o2, c2] at t2
        simp [o3, c3] at t3
        simp [o4, c4] at t4
        have s0 := hcell 0 (by omega)
        have s1 := hcell 1 (by omega)
        have s2 := hcell 2 (by omega)
        have s3 := hcell 3 (by omega)
        have s4 := hcell 4 (by omega)
        rw [add_add] at s0 s1 s2 s3 s4
        obtain ⟨z0, n0, _, w0⟩ := DataW.trod_int h0 t0
        obtain ⟨z1, n1, _, w1⟩ := DataW.trod_int h1 t1
        obtain ⟨z2, n2, _, w2⟩ := DataW.trod_int h2 t2
        simp at n0 n1 n2
        subst n0 n1 n2
        obtain ⟨A1, L1, C1, Z1, rfl, r1⟩ := row_of_cell h3 hq cq t3
        obtain ⟨A2, L2, C2, K, rfl, r2, r3, r4⟩ := bools_of_cell h4 hqb cqb t4
        exact ⟨⟨z0, z1, z2, A1, L1, C1, Z1, A2, L2, C2, K⟩, by simpa using s0, by simpa using s1, by simpa using s2, by simpa using s3, by simpa using s4, w0, w1, w2, r1, r2, r3, r4⟩
    obtain ⟨Q, hQ⟩ := choose_lt each
    refine ⟨Q, fun i hi => ?_, hl, hm⟩
    obtain ⟨s0, s1, s2, s3, s4, ok⟩ := hQ i (by omega)
    obtain ⟨b, off, spot⟩ := x
    have hspot : spot = none := by
      obtain ⟨z0, _⟩ := hQ 0 (by omega)
      simpa [Addr.add] using World.cell?_spot z0
    subst hspot
    have hlt := bounds_of_cell s0
    rw [add_none] at s0 s1 s2 s3 s4 hlt
    refine ⟨b, off, rfl, hlt, s0, ?_, ?_, ?_, ?_, ok⟩
    all_goals rw [Nat.add_assoc]; assumption
end
end Go.Proofs.Ytpgkimohekdmmaa.Do8
