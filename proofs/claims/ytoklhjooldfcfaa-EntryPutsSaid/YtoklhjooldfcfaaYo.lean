/-
  Entries, arrays, slices of slots that came in.
-/
import Derived.Test.YtoklhjooldfcfaaYd
import Derived.Lib.SmallJoins
import Derived.Deep.SlicePairs
namespace Go.Proofs.Ytoklhjooldfcfaa.Yo
open Go.ChangeShapes Go.WideShapes Go.ChangeAt Go.RowKit Go.Deep
open Bytes8 Blk8 Rows2 Yc Yd
set_option linter.unusedVariables false
set_option linter.unusedSimpArgs false
set_option maxRecDepth 100000

theorem in2_of_cell {H : Type} {enc : TypeId × Value → H} {P : Program} {w : World} {base : Nat} {held : Bool} {t e : TypeId} {f0 f1 : Field} {fuel : Nat} {v : Value} {x : DataW H × List MemPlace}
    (ht : P.underlying t = some (.slice e)) (he : P.underlying e = some (.struct #[f0, f1])) (ce : P.cellsOf e = 2) (o0 : f0.offset = 0) (o1 : f1.offset = 1) (c0 : P.cellsOf f0.type = 1) (c1 : P.cellsOf f1.type = 1) (h0 : P.underlying f0.type = some (.int .u64)) (h1 : P.underlying f1.type = some (.int .u64))
    (h : DataW.trod enc P w base (fun _ => true) held fuel t [v] = some x) : ∃ a len cap f g, v = .slice a len cap ∧ In2 w a len f g ∧ len ≤ cap ∧ cap ≤ maxLen := by
  rcases open_slice_pairs ht he ce o0 o1 c0 c1 h with ⟨hcs, _⟩ | ⟨x, l, c, m, n, V0, V1, D0, D1, P0, P1, hcs, _, hl, hm, hmm, _, hel⟩
  · simp at hcs
    exact ⟨none, 0, 0, fun _ => 0, fun _ => 0, hcs, fun i hi => absurd hi (by omega), Nat.le_refl _, by decide⟩
  · simp at hcs
    simp at hmm
    have each : ∀ i, i < c → ∃ q : Int × Int, V0 i = .int .u64 q.1 ∧ V1 i = .int .u64 q.2 ∧ (0 ≤ q.1 ∧ q.1 ≤ 18446744073709551615) ∧ (0 ≤ q.2 ∧ q.2 ≤ 18446744073709551615) := by
      intro i hi
      obtain ⟨_, _, t0, t1⟩ := hel i (by omega)
      obtain ⟨s0, e0, _, z0⟩ := DataW.trod_int h0 t0
      obtain ⟨s1, e1, _, z1⟩ := DataW.trod_int h1 t1
      injection e0 with e0
      injection e1 with e1
      exact ⟨(s0, s1), e0, e1, bounds_u64 z0, bounds_u64 z1⟩
    obtain ⟨q, hq⟩ := choose_lt each
    refine ⟨some x, l, c, fun i => (q i).1, fun i => (q i).2, hcs, fun i hi => ?_, hl, hm⟩
    obtain ⟨hc0, hc1, _, _⟩ := hel i (by omega)
    obtain ⟨g0, g1, ha⟩ := hq i (by omega)
    obtain ⟨b, off, spot⟩ := x
    have hspot : spot = none := by
      obtain ⟨z0, _⟩ := hel 0 (by omega)
      simpa [Addr.add] using World.cell?_spot z0
    subst hspot
    have hlt := bounds_of_cell hc0
    rw [add_none] at hc0 hc1 hlt
    exact ⟨b, off, rfl, hlt, by rw [hc0, g0], by rw [Nat.add_assoc, hc1, g1], ha⟩
theorem ints_of_cell {H : Type} {enc : TypeId × Value → H} {P : Program} {w : World} {base : Nat} {held : Bool} {t e : TypeId} {k : IntKind} {fuel : Nat} {v : Value} {x : DataW H × List MemPlace} (ht : P.underlying t = some (.slice e)) (he : P.underlying e = some (.int k)) (hc : P.cellsOf e = 1)
    (h : DataW.trod enc P w base (fun _ => true) held fuel t [v] = some x) : ∃ a len cap f, v = .slice a len cap ∧ InInts k w a len f ∧ len ≤ cap ∧ cap ≤ maxLen := by
  rcases open_ints ht he hc h with ⟨hcs, _⟩ | ⟨x, l, c, zs, hcs, _, hl, hm, hz, _, hcell, hwz⟩
  · simp at hcs
    exact ⟨none, 0, 0, fun _ => 0, hcs, fun i hi => absurd hi (by omega), Nat.le_refl _, by decide⟩
  · simp at hcs
    have := ints_in (k := k) (w := w) (a := some x) (len := l) (cap := c) (zs := zs) (.inr ⟨_, rfl, hl, hm, by simpa using hz, hcell, hwz⟩)
    exact ⟨some x, l, c, _, hcs, this.1, hl, hm⟩
theorem id_cells {H : Type} {enc : TypeId × Value → H} {P : Program} {w : World} {base : Nat} {held : Bool} {spare : Nat → Bool} {t e : TypeId} {fuel : Nat} {l : List Value} {x : DataW H × List MemPlace} (ht : P.underlying t = some (.array 16 e)) (he : P.underlying e = some (.int .u8)) (ce : P.cellsOf e = 1) (hl : l.length = 16)
    (hf : DataW.trod enc P w base spare held fuel t l = some x) : ∃ K, l = (idL K).map (Value.int .u8) ∧ IdOk K := by
  obtain ⟨xs, m, _, _, _, hlen, hel⟩ := DataW.trod_array ht hf
  have each : ∀ i, i < 16 → ∃ n, l[i]? = some (.int .u8 n) ∧ 0 ≤ n ∧ n < 256 := by
    intro i hi
    have h1 := hel i hi
    have hx : xs[i]? = some (xs[i]'(by omega)) := List.getElem?_eq_getElem (by omega)
    rw [hx, ce] at h1
    obtain ⟨n, hn, _, hw⟩ := DataW.trod_int he h1
    have hb := bounds_u8 hw
    refine ⟨n, ?_, by omega, by omega⟩
    have hil : i < l.length := by omega
    simp only [Nat.mul_one] at hn
    have h2 : (l.drop i).take 1 = [l[i]] := by rw [List.drop_eq_getElem_cons hil]; rfl
    rw [h2] at hn
    injection hn with hn
    rw [List.getElem?_eq_getElem hil, hn]
  have hch : ∃ K : Nat → Int, ∀ i, i < 16 → l[i]? = some (.int .u8 (K i)) ∧ 0 ≤ K i ∧ K i < 256 :=
    ⟨fun i => if hi : i < 16 then (each i hi).choose else 0, fun i hi => by simp only [dif_pos hi]; exact (each i hi).choose_spec⟩
  obtain ⟨K, hK⟩ := hch
  refine ⟨fun i => if i < 16 then K i else 0, ?_, fun i => ?_⟩
  · apply List.ext_getElem?
    intro i
    by_cases hi : i < 16
    · rw [(hK i hi).1, List.getElem?_map]
      have : (idL fun i => if i < 16 then K i else 0)[i]? = some (K i) := by
        unfold idL
        rcases i with _ | _ | _ | _ | _ | _ | _ | _ | _ | _ | _ | _ | _ | _ | _ | _ | i
        all_goals first | rfl | omega
      rw [this]; rfl
    · rw [List.getElem?_eq_none (by omega), List.getElem?_eq_none (by simp [idL]; omega)]
  · by_cases hi : i < 16
    · simp only [if_pos hi]; exact (hK i hi).2
    · simp [if_neg hi]
theorem arr_of_trod {H : Type} {enc : TypeId × Value → H} {P : Program} {w : World} {base b0 : Nat} {held : Bool} {r : Reach} {t q : TypeId} {f0 f1 : Field} {v : Value} {d : DataW H} {p : List MemPlace}
    (hs : P.underlying t = some (.struct #[f0, f1])) (hone : oneCellFields P #[f0, f1] = true) (hC : P.cellsOf t = 2)
    (g0 : P.underlying f0.type = some (.int .u64)) (g1 : P.underlying f1.type = some (.slice q)) (u1 : P.underlying q = some (.int .u64)) (v1 : P.cellsOf q = 1)
    (hv : Value.okWide P w r b0 t v) (h : DataW.Trod enc P w base (fun _ => true) held t v d p) :
    ∃ x A n c f, v = arrV x A n c ∧ (0 ≤ x ∧ x ≤ 18446744073709551615) ∧ InInts .u64 w A n f := by
  obtain ⟨cs, rfl, hsz⟩ := okWide_struct hs hv
  rw [hC] at hsz
  obtain ⟨cs⟩ := cs
  simp at hsz
  obtain ⟨fuel, hf⟩ := h
  obtain ⟨xs, k, _, _, _, hxl, hfd⟩ := DataW.trod_struct hs hf
  match cs, hsz, xs, hxl with
  | [y0, y1], _, [w0, w1], _ =>
    have t0 := hfd 0 f0 rfl
    obtain ⟨o0, k0⟩ := hone_of hone 0 f0 rfl
    simp [Value.cells, o0, k0] at t0
    obtain ⟨x0, e0, _, l0⟩ := DataW.trod_int g0 t0
    simp at e0
    subst e0
    have t1 := hfd 1 f1 rfl
    obtain ⟨o1, k1⟩ := hone_of hone 1 f1 rfl
    simp [Value.cells, o1, k1] at t1
    obtain ⟨A, n, c, f, rfl, hi, _⟩ := ints_of_cell g1 u1 v1 t1
    exact ⟨x0, A, n, c, f, rfl, bounds_u64 l0, hi⟩
set_option maxHeartbeats 1000000 in
theorem ent_of_trod {H : Type} {enc : TypeId × Value → H} {P : Program} {w : World} {base b0 : Nat} {held : Bool} {r : Reach} {t q3 q5 : TypeId} {f0 f1 f2 f3 f4 f5 h0 h1 : Field} {v : Value} {d : DataW H} {p : List MemPlace}
    (hs : P.underlying t = some (.struct #[f0, f1, f2, f3, f4, f5])) (hoff : [f0.offset, f1.offset, f2.offset, f3.offset, f4.offset, f5.offset] = [0, 1, 2, 3, 19, 20]) (hcel : [P.cellsOf f0.type, P.cellsOf f1.type, P.cellsOf f2.type, P.cellsOf f3.type, P.cellsOf f4.type, P.cellsOf f5.type] = [1, 1, 1, 16, 1, 1]) (hC : P.cellsOf t = 21)
    (g0 : P.underlying f0.type = some (.int .u64)) (g1 : P.underlying f1.type = some (.int .u64)) (g2 : P.underlying f2.type = some (.int .u64)) (g3 : P.underlying f3.type = some (.array 16 q3)) (u3 : P.underlying q3 = some (.int .u8)) (v3 : P.cellsOf q3 = 1) (g4 : P.underlying f4.type = some (.int .u64)) (g5 : P.underlying f5.type = some (.slice q5))
    (he : P.underlying q5 = some (.struct #[h0, h1])) (ce : P.cellsOf q5 = 2) (o0 : h0.offset = 0) (o1 : h1.offset = 1) (c0 : P.cellsOf h0.type = 1) (c1 : P.cellsOf h1.type = 1) (k0 : P.underlying h0.type = some (.int .u64)) (k1 : P.underlying h1.type = some (.int .u64))
    (hv : Value.okWide P w r b0 t v) (h : DataW.Trod enc P w base (fun _ => true) held t v d p) :
    ∃ s r m K x A n c f g, v = entV s r m K x A n c ∧ (0 ≤ s ∧ s ≤ 18446744073709551615) ∧ (0 ≤ r ∧ r ≤ 18446744073709551615) ∧ (0 ≤ m ∧ m ≤ 18446744073709551615) ∧ IdOk K ∧ (0 ≤ x ∧ x ≤ 18446744073709551615) ∧ In2 w A n f g := by
  obtain ⟨cs, rfl, hsz⟩ := okWide_struct hs hv
  rw [hC] at hsz
  obtain ⟨cs⟩ := cs
  simp at hsz
  obtain ⟨fuel, hf⟩ := h
  obtain ⟨xs, k, _, _, _, hxl, hfd⟩ := DataW.trod_struct hs hf
  simp only [List.cons.injEq, and_true] at hoff hcel
  obtain ⟨of0, of1, of2, of3, of4, of5⟩ := hoff
  obtain ⟨ca0, ca1, ca2, ca3, ca4, ca5⟩ := hcel
  match cs, hsz, xs, hxl with
  | [y0, y1, y2, b0, b1, b2, b3, b4, b5, b6, b7, b8, b9, b10, b11, b12, b13, b14, b15, y4, y5], _, [w0, w1, w2, w3, w4, w5], _ =>
    have t0 := hfd 0 f0 rfl
    simp [Value.cells, of0, ca0] at t0
    obtain ⟨x0, e0, _, l0⟩ := DataW.trod_int g0 t0
    simp at e0
    subst e0
    have t1 := hfd 1 f1 rfl
    simp [Value.cells, of1, ca1] at t1
    obtain ⟨x1, e1, _, l1⟩ := DataW.trod_int g1 t1
    simp at e1
    subst e1
    have t2 := hfd 2 f2 rfl
    simp [Value.cells, of2, ca2] at t2
    obtain ⟨x2, e2, _, l2⟩ := DataW.trod_int g2 t2
    simp at e2
    subst e2
    have t3 := hfd 3 f3 rfl
    simp [Value.cells, of3, ca3] at t3
    obtain ⟨K, e3, hK⟩ := id_cells g3 u3 v3 rfl t3
    simp [idL] at e3
    obtain ⟨rfl, rfl, rfl, rfl, rfl, rfl, rfl, rfl, rfl, rfl, rfl, rfl, rfl, rfl, rfl, rfl⟩ := e3
    have t4 := hfd 4 f4 rfl
    simp [Value.cells, of4, ca4] at t4
    obtain ⟨x4, e4, _, l4⟩ := DataW.trod_int g4 t4
    simp at e4
    subst e4
    have t5 := hfd 5 f5 rfl
    simp [Value.cells, of5, ca5] at t5
    obtain ⟨A, n, c, f, g, rfl, hi, _⟩ := in2_of_cell g5 he ce o0 o1 c0 c1 k0 k1 t5
    exact ⟨x0, x1, x2, K, x4, A, n, c, f, g, rfl, bounds_u64 l0, bounds_u64 l1, bounds_u64 l2, hK, bounds_u64 l4, hi⟩
theorem in2_of_trod {H : Type} {enc : TypeId × Value → H} {P : Program} {w : World} {base : Nat} {held : Bool} {t e : TypeId} {f0 f1 : Field} {a : Option Addr} {len cap : Nat} {d : DataW H} {p : List MemPlace}
    (ht : P.underlying t = some (.slice e)) (he : P.underlying e = some (.struct #[f0, f1])) (ce : P.cellsOf e = 2) (o0 : f0.offset = 0) (o1 : f1.offset = 1) (c0 : P.cellsOf f0.type = 1) (c1 : P.cellsOf f1.type = 1) (h0 : P.underlying f0.type = some (.int .u64)) (h1 : P.underlying f1.type = some (.int .u64))
    (h : DataW.Trod enc P w base (fun _ => true) held t (.slice a len cap) d p) : ∃ f g, In2 w a len f g := by
  obtain ⟨fuel, hf⟩ := h
  obtain ⟨a2, len2, cap2, f, g, e1, hi, _⟩ := in2_of_cell ht he ce o0 o1 c0 c1 h0 h1 hf
  injection e1 with e1 e2 e3
  subst e1 e2
  exact ⟨f, g, hi⟩
end Go.Proofs.Ytoklhjooldfcfaa.Yo
