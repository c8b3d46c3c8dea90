/-
  A slice of structs that came in: an integer, an integer, an integer, an integer, an integer, a text, bytes, bools.
-/
import Derived.Test.YtpgkimohekdmmaaDo
import Derived.Test.YtpgkimohekdmmaaTx
namespace Go.Proofs.Ytpgkimohekdmmaa.Do6
open Go.ChangeShapes Go.WideShapes Go.ChangeAt Go.RowKit Go.Deep
open Bytes8 Blk8 Fa
open Do8 (InBools bools_of_cell row_of_cell isRow_below)
set_option linter.unusedVariables false
set_option maxRecDepth 100000
set_option linter.unusedSimpArgs false

structure DoV where
  kind : Int
  a : Int
  b : Int
  at_ : Int
  n : Int
  name : List Int
  bodyA : Option Addr
  bodyL : Nat
  bodyC : Nat
  bodyZ : List Int
  keepA : Option Addr
  keepL : Nat
  keepC : Nat
  keepK : Nat → Bool
instance : Inhabited DoV := ⟨⟨0, 0, 0, 0, 0, [], none, 0, 0, [], none, 0, 0, (fun _ => false)⟩⟩

def DoOk (w : World) (d : DoV) : Prop :=
  (Lit.int .i64 d.kind).wf = true ∧ (Lit.int .i64 d.a).wf = true ∧ (Lit.int .i64 d.b).wf = true ∧ (Lit.int .i64 d.at_).wf = true ∧ (Lit.int .i64 d.n).wf = true ∧ (AllB d.name ∧ d.name.length ≤ maxLen) ∧ IsRow .u8 w d.bodyA d.bodyL d.bodyC d.bodyZ ∧ (InBools w d.keepA d.keepL d.keepK ∧ d.keepL ≤ d.keepC ∧ d.keepC ≤ maxLen)

def InDos (w : World) (a : Option Addr) (len : Nat) (D : Nat → DoV) : Prop :=
  ∀ i, i < len → ∃ b off, a = some ⟨b, off, none⟩ ∧ b < w.heap.size ∧ w.cell? ⟨b, off + i * 8, none⟩ = some (.int .i64 (D i).kind) ∧ w.cell? ⟨b, off + i * 8 + 1, none⟩ = some (.int .i64 (D i).a) ∧ w.cell? ⟨b, off + i * 8 + 2, none⟩ = some (.int .i64 (D i).b) ∧ w.cell? ⟨b, off + i * 8 + 3, none⟩ = some (.int .i64 (D i).at_) ∧ w.cell? ⟨b, off + i * 8 + 4, none⟩ = some (.int .i64 (D i).n) ∧ w.cell? ⟨b, off + i * 8 + 5, none⟩ = some (.string (T (D i).name)) ∧ w.cell? ⟨b, off + i * 8 + 6, none⟩ = some (.slice (D i).bodyA (D i).bodyL (D i).bodyC) ∧ w.cell? ⟨b, off + i * 8 + 7, none⟩ = some (.slice (D i).keepA (D i).keepL (D i).keepC) ∧ DoOk w (D i)

theorem DoOk.below {w w' : World} {d : DoV} (h : DoOk w d) (hb : Below w.heap.size w w') : DoOk w' d := by
  obtain ⟨h0, h1, h2, h3, h4, h5, h6, h7⟩ := h
  exact ⟨h0, h1, h2, h3, h4, h5, isRow_below h6 hb, ⟨h7.1.below hb, h7.2⟩⟩
theorem InDos.below {w w' : World} {a : Option Addr} {len : Nat} {D : Nat → DoV} (h : InDos w a len D) (hb : Below w.heap.size w w') : InDos w' a len D := fun i hi => by
  obtain ⟨b, off, e, hl, c0, c1, c2, c3, c4, c5, c6, c7, hd⟩ := h i hi
  have H : ∀ j, w'.cell? ⟨b, j, none⟩ = w.cell? ⟨b, j, none⟩ := fun j => hb.cell (p := ⟨b, j, none⟩) hl
  exact ⟨b, off, e, Nat.lt_of_lt_of_le hl hb.size, (H _).trans c0, (H _).trans c1, (H _).trans c2, (H _).trans c3, (H _).trans c4, (H _).trans c5, (H _).trans c6, (H _).trans c7, hd.below hb⟩

theorem dos_of_trod {H : Type} {enc : TypeId × Value → H} {P : Program} {w : World} {base : Nat} {held : Bool} {t e q6 q7 : TypeId} {f0 f1 f2 f3 f4 f5 f6 f7 : Field} {a : Option Addr} {len cap : Nat} {d : DataW H} {p : List MemPlace}
    (ht : P.underlying t = some (.slice e)) (he : P.underlying e = some (.struct #[f0, f1, f2, f3, f4, f5, f6, f7])) (ce : P.cellsOf e = 8)
    (o0 : f0.offset = 0) (c0 : P.cellsOf f0.type = 1) (g0 : P.underlying f0.type = some (.int .i64)) (o1 : f1.offset = 1) (c1 : P.cellsOf f1.type = 1) (g1 : P.underlying f1.type = some (.int .i64)) (o2 : f2.offset = 2) (c2 : P.cellsOf f2.type = 1) (g2 : P.underlying f2.type = some (.int .i64)) (o3 : f3.offset = 3) (c3 : P.cellsOf f3.type = 1) (g3 : P.underlying f3.type = some (.int .i64)) (o4 : f4.offset = 4) (c4 : P.cellsOf f4.type = 1) (g4 : P.underlying f4.type = some (.int .i64)) (o5 : f5.offset = 5) (c5 : P.cellsOf f5.type = 1) (g5 : P.underlying f5.type = some .string) (o6 : f6.offset = 6) (c6 : P.cellsOf f6.type = 1) (g6 : P.underlying f6.type = some (.slice q6)) (u6 : P.underlying q6 = some (.int .u8)) (v6 : P.cellsOf q6 = 1) (o7 : f7.offset = 7) (c7 : P.cellsOf f7.type = 1) (g7 : P.underlying f7.type = some (.slice q7)) (u7 : P.underlying q7 = some .bool) (v7 : P.cellsOf q7 = 1)
    (h : DataW.Trod enc P w base (fun _ => true) held t (.slice a len cap) d p) : ∃ D, InDos w a len D ∧ len ≤ cap ∧ cap ≤ maxLen := by
  obtain ⟨fuel, hf⟩ := h
  rcases open_slice ht hf with ⟨hcs, _⟩ | ⟨x, l, c, m, n, D, Pl, hcs, _, hl, hm, hmm, _, hx⟩
  · simp [Value.cells] at hcs
    obtain ⟨rfl, rfl, rfl⟩ := hcs
    exact ⟨fun _ => default, fun i hi => absurd hi (by omega), Nat.le_refl _, by decide⟩
  · simp [Value.cells] at hcs
    obtain ⟨rfl, e1, e2⟩ := hcs
    subst e1 e2
    simp at hmm
    have each : ∀ i, i < cap → ∃ q : DoV, w.cell? (x.add (i * 8)) = some (.int .i64 q.kind) ∧ w.cell? (x.add (i * 8 + 1)) = some (.int .i64 q.a) ∧ w.cell? (x.add (i * 8 + 2)) = some (.int .i64 q.b) ∧ w.cell? (x.add (i * 8 + 3)) = some (.int .i64 q.at_) ∧ w.cell? (x.add (i * 8 + 4)) = some (.int .i64 q.n) ∧ w.cell? (x.add (i * 8 + 5)) = some (.string (T q.name)) ∧ w.cell? (x.add (i * 8 + 6)) = some (.slice q.bodyA q.bodyL q.bodyC) ∧ w.cell? (x.add (i * 8 + 7)) = some (.slice q.keepA q.keepL q.keepC) ∧ DoOk w q := by
      intro i hi
      obtain ⟨cs', g1', g2'⟩ := hx i (by omega)
      rw [ce] at g1'
      obtain ⟨_, hlen, hcell⟩ := World.cells?_some g1'
      obtain ⟨xs, k, hk, hxy, _, hxl, hfd⟩ := DataW.trod_struct he g2'
      match xs, hxl, cs', hlen with
      | [y0, y1, y2, y3, y4, y5, y6, y7], _, [z0, z1, z2, z3, z4, z5, z6, z7], _ =>
        have t0 := hfd 0 f0 rfl
        simp [o0, c0] at t0
        have s0 := hcell 0 (by omega)
        have t1 := hfd 1 f1 rfl
        simp [o1, c1] at t1
        have s1 := hcell 1 (by omega)
        have t2 := hfd 2 f2 rfl
        simp [o2, c2] at t2
        have s2 := hcell 2 (by omega)
        have t3 := hfd 3 f3 rfl
        simp [o3, c3] at t3
        have s3 := hcell 3 (by omega)
        have t4 := hfd 4 f4 rfl
        simp [o4, c4] at t4
        have s4 := hcell 4 (by omega)
        have t5 := hfd 5 f5 rfl
        simp [o5, c5] at t5
        have s5 := hcell 5 (by omega)
        have t6 := hfd 6 f6 rfl
        simp [o6, c6] at t6
        have s6 := hcell 6 (by omega)
        have t7 := hfd 7 f7 rfl
        simp [o7, c7] at t7
        have s7 := hcell 7 (by omega)
        rw [add_add] at s0 s1 s2 s3 s4 s5 s6 s7
        obtain ⟨i0, n0, _, w0⟩ := DataW.trod_int g0 t0
        simp at n0
        subst n0
        obtain ⟨i1, n1, _, w1⟩ := DataW.trod_int g1 t1
        simp at n1
        subst n1
        obtain ⟨i2, n2, _, w2⟩ := DataW.trod_int g2 t2
        simp at n2
        subst n2
        obtain ⟨i3, n3, _, w3⟩ := DataW.trod_int g3 t3
        simp at n3
        subst n3
        obtain ⟨i4, n4, _, w4⟩ := DataW.trod_int g4 t4
        simp at n4
        subst n4
        obtain ⟨b5, n5, _, w5⟩ := DataW.trod_string g5 t5
        injection n5 with n5
        subst n5
        have e5 : b5 = T (num b5) := (T_num b5).symm
        rw [e5] at s5
        rw [← num_len] at w5
        obtain ⟨A6, L6, C6, Z6, rfl, r6⟩ := row_of_cell g6 u6 v6 t6
        obtain ⟨A7, L7, C7, K7, rfl, r7⟩ := bools_of_cell g7 u7 v7 t7
        exact ⟨⟨i0, i1, i2, i3, i4, num b5, A6, L6, C6, Z6, A7, L7, C7, K7⟩, by simpa using s0, by simpa using s1, by simpa using s2, by simpa using s3, by simpa using s4, by simpa using s5, by simpa using s6, by simpa using s7, w0, w1, w2, w3, w4, ⟨num_all _, w5⟩, r6, r7⟩
    obtain ⟨Q, hQ⟩ := choose_lt each
    refine ⟨Q, fun i hi => ?_, hl, hm⟩
    obtain ⟨s0, s1, s2, s3, s4, s5, s6, s7, ok⟩ := hQ i (by omega)
    obtain ⟨b, off, spot⟩ := x
    have hspot : spot = none := by
      obtain ⟨z0, _⟩ := hQ 0 (by omega)
      simpa [Addr.add] using World.cell?_spot z0
    subst hspot
    have hlt := bounds_of_cell s0
    rw [add_none] at s0 s1 s2 s3 s4 s5 s6 s7 hlt
    refine ⟨b, off, rfl, hlt, s0, ?_, ?_, ?_, ?_, ?_, ?_, ?_, ok⟩
    all_goals rw [Nat.add_assoc]; assumption
end Go.Proofs.Ytpgkimohekdmmaa.Do6
