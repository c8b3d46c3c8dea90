/-
  Structs that came in by value.
-/
import Derived.Test.YtbfeomoafpgejaaBlk
import Derived.Lib.SmallJoins
namespace Go.Proofs.Ytbfeomoafpgejaa.St8
open Go.ChangeShapes Go.WideShapes Go.ChangeAt Go.RowKit Go.Deep
open Bytes8 Blk8
set_option linter.unusedVariables false
set_option linter.unusedSimpArgs false

theorem row_of_cell {H : Type} {enc : TypeId × Value → H} {P : Program} {w : World} {base : Nat} {held : Bool} {t e : TypeId} {k : IntKind} {fuel : Nat} {v : Value} {x : DataW H × List MemPlace} (ht : P.underlying t = some (.slice e)) (he : P.underlying e = some (.int k)) (hc : P.cellsOf e = 1)
    (h : DataW.trod enc P w base (fun _ => true) held fuel t [v] = some x) : ∃ a len cap zs, v = .slice a len cap ∧ IsRow k w a len cap zs := by
  rcases open_ints ht he hc h with ⟨hcs, _⟩ | ⟨x, l, c, zs, hcs, _, hl, hm, hz, _, hcell, hwz⟩
  · simp at hcs
    exact ⟨none, 0, 0, [], hcs, .inl ⟨rfl, rfl, rfl, rfl⟩⟩
  · simp at hcs
    exact ⟨some x, l, c, zs, hcs, .inr ⟨_, rfl, hl, hm, by simpa using hz, hcell, hwz⟩⟩

theorem st_uuuuuub_of_trod {H : Type} {enc : TypeId × Value → H} {P : Program} {w : World} {base b0 : Nat} {held : Bool} {r : Reach} {t q6 : TypeId} {f0 f1 f2 f3 f4 f5 f6 : Field} {v : Value} {d : DataW H} {p : List MemPlace}
    (hs : P.underlying t = some (.struct #[f0, f1, f2, f3, f4, f5, f6])) (hone : oneCellFields P #[f0, f1, f2, f3, f4, f5, f6] = true) (hC : P.cellsOf t = 7)
    (g0 : P.underlying f0.type = some (.int .u64)) (g1 : P.underlying f1.type = some (.int .u64)) (g2 : P.underlying f2.type = some (.int .u64)) (g3 : P.underlying f3.type = some (.int .u64)) (g4 : P.underlying f4.type = some (.int .u64)) (g5 : P.underlying f5.type = some (.int .u64)) (g6 : P.underlying f6.type = some (.slice q6)) (u6 : P.underlying q6 = some (.int .u8)) (v6 : P.cellsOf q6 = 1)
    (hv : Value.okWide P w r b0 t v) (h : DataW.Trod enc P w base (fun _ => true) held t v d p) :
    ∃ (x0 : Int) (x1 : Int) (x2 : Int) (x3 : Int) (x4 : Int) (x5 : Int) (A6 : Option Addr) (n6 c6 : Nat) (z6 : List Int), v = .agg #[.int .u64 x0, .int .u64 x1, .int .u64 x2, .int .u64 x3, .int .u64 x4, .int .u64 x5, .slice A6 n6 c6] ∧ (Lit.int .u64 x0).wf = true ∧ (Lit.int .u64 x1).wf = true ∧ (Lit.int .u64 x2).wf = true ∧ (Lit.int .u64 x3).wf = true ∧ (Lit.int .u64 x4).wf = true ∧ (Lit.int .u64 x5).wf = true ∧ IsRow .u8 w A6 n6 c6 z6 := by
  obtain ⟨cs, rfl, hsz⟩ := okWide_struct hs hv
  rw [hC] at hsz
  obtain ⟨cs⟩ := cs
  simp at hsz
  obtain ⟨fuel, hf⟩ := h
  obtain ⟨xs, k, _, _, _, hxl, hfd⟩ := DataW.trod_struct hs hf
  match cs, hsz, xs, hxl with
  | [y0, y1, y2, y3, y4, y5, y6], _, [w0, w1, w2, w3, w4, w5, w6], _ =>
    have t0 := hfd 0 f0 rfl
    obtain ⟨o0, k0⟩ := hone_of hone 0 f0 rfl
    simp [Value.cells, o0, k0] at t0
    obtain ⟨x0, e0, _, l0⟩ := DataW.trod_int g0 t0
    simp at e0
    subst e0
    have t1 := hfd 1 f1 rfl
    obtain ⟨o1, k1⟩ := hone_of hone 1 f1 rfl
    simp [Value.cells, o1, k1] at t1
    obtain ⟨x1, e1, _, l1⟩ := DataW.trod_int g1 t1
    simp at e1
    subst e1
    have t2 := hfd 2 f2 rfl
    obtain ⟨o2, k2⟩ := hone_of hone 2 f2 rfl
    simp [Value.cells, o2, k2] at t2
    obtain ⟨x2, e2, _, l2⟩ := DataW.trod_int g2 t2
    simp at e2
    subst e2
    have t3 := hfd 3 f3 rfl
    obtain ⟨o3, k3⟩ := hone_of hone 3 f3 rfl
    simp [Value.cells, o3, k3] at t3
    obtain ⟨x3, e3, _, l3⟩ := DataW.trod_int g3 t3
    simp at e3
    subst e3
    have t4 := hfd 4 f4 rfl
    obtain ⟨o4, k4⟩ := hone_of hone 4 f4 rfl
    simp [Value.cells, o4, k4] at t4
    obtain ⟨x4, e4, _, l4⟩ := DataW.trod_int g4 t4
    simp at e4
    subst e4
    have t5 := hfd 5 f5 rfl
    obtain ⟨o5, k5⟩ := hone_of hone 5 f5 rfl
    simp [Value.cells, o5, k5] at t5
    obtain ⟨x5, e5, _, l5⟩ := DataW.trod_int g5 t5
    simp at e5
    subst e5
    have t6 := hfd 6 f6 rfl
    obtain ⟨o6, k6⟩ := hone_of hone 6 f6 rfl
    simp [Value.cells, o6, k6] at t6
    obtain ⟨A6, n6, c6, z6, rfl, l6⟩ := row_of_cell g6 u6 v6 t6
    exact ⟨x0, x1, x2, x3, x4, x5, A6, n6, c6, z6, rfl, l0, l1, l2, l3, l4, l5, l6⟩

theorem st_uuub_of_trod {H : Type} {enc : TypeId × Value → H} {P : Program} {w : World} {base b0 : Nat} {held : Bool} {r : Reach} {t q3 : TypeId} {f0 f1 f2 f3 : Field} {v : Value} {d : DataW H} {p : List MemPlace}
    (hs : P.underlying t = some (.struct #[f0, f1, f2, f3])) (hone : oneCellFields P #[f0, f1, f2, f3] = true) (hC : P.cellsOf t = 4)
    (g0 : P.underlying f0.type = some (.int .u64)) (g1 : P.underlying f1.type = some (.int .u64)) (g2 : P.underlying f2.type = some (.int .u64)) (g3 : P.underlying f3.type = some (.slice q3)) (u3 : P.underlying q3 = some (.int .u8)) (v3 : P.cellsOf q3 = 1)
    (hv : Value.okWide P w r b0 t v) (h : DataW.Trod enc P w base (fun _ => true) held t v d p) :
    ∃ (x0 : Int) (x1 : Int) (x2 : Int) (A3 : Option Addr) (n3 c3 : Nat) (z3 : List Int), v = .agg #[.int .u64 x0, .int .u64 x1, .int .u64 x2, .slice A3 n3 c3] ∧ (Lit.int .u64 x0).wf = true ∧ (Lit.int .u64 x1).wf = true ∧ (Lit.int .u64 x2).wf = true ∧ IsRow .u8 w A3 n3 c3 z3 := by
  obtain ⟨cs, rfl, hsz⟩ := okWide_struct hs hv
  rw [hC] at hsz
  obtain ⟨cs⟩ := cs
  simp at hsz
  obtain ⟨fuel, hf⟩ := h
  obtain ⟨xs, k, _, _, _, hxl, hfd⟩ := DataW.trod_struct hs hf
  match cs, hsz, xs, hxl with
  | [y0, y1, y2, y3], _, [w0, w1, w2, w3], _ =>
    have t0 := hfd 0 f0 rfl
    obtain ⟨o0, k0⟩ := hone_of hone 0 f0 rfl
    simp [Value.cells, o0, k0] at t0
    obtain ⟨x0, e0, _, l0⟩ := DataW.trod_int g0 t0
    simp at e0
    subst e0
    have t1 := hfd 1 f1 rfl
    obtain ⟨o1, k1⟩ := hone_of hone 1 f1 rfl
    simp [Value.cells, o1, k1] at t1
    obtain ⟨x1, e1, _, l1⟩ := DataW.trod_int g1 t1
    simp at e1
    subst e1
    have t2 := hfd 2 f2 rfl
    obtain ⟨o2, k2⟩ := hone_of hone 2 f2 rfl
    simp [Value.cells, o2, k2] at t2
    obtain ⟨x2, e2, _, l2⟩ := DataW.trod_int g2 t2
    simp at e2
    subst e2
    have t3 := hfd 3 f3 rfl
    obtain ⟨o3, k3⟩ := hone_of hone 3 f3 rfl
    simp [Value.cells, o3, k3] at t3
    obtain ⟨A3, n3, c3, z3, rfl, l3⟩ := row_of_cell g3 u3 v3 t3
    exact ⟨x0, x1, x2, A3, n3, c3, z3, rfl, l0, l1, l2, l3⟩

end Go.Proofs.Ytbfeomoafpgejaa.St8
