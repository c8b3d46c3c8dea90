/-
  What a round of Sip, and taking eight bytes in, answer; and the document's own rounds.
-/
import Derived.Test.YtmkpeidgimgdlaaHb
import Derived.Deep.DeepMust
namespace Go.Proofs.Ytmkpeidgimgdlaa.Sa
open Go.ChangeShapes Go.WideShapes Go.ChangeAt Go.RowKit
open Bytes8 Blk8 LeNum Hm Ha Hb
set_option linter.unusedVariables false

set_option maxHeartbeats 1000000 in
theorem round_any (p q r s : Int) (w : World) (h : (⟨p, q, r, s⟩ : Quad).ok) :
    Calls Try.prog 42 #[.agg #[.int .u64 p, .int .u64 q, .int .u64 r, .int .u64 s]] w fun e w' => e = .returned (.agg #[.int .u64 (round ⟨p, q, r, s⟩).p, .int .u64 (round ⟨p, q, r, s⟩).q, .int .u64 (round ⟨p, q, r, s⟩).r, .int .u64 (round ⟨p, q, r, s⟩).s]) ∧ Below w.heap.size w w' := by
  obtain ⟨⟨p0, p1⟩, ⟨q0, q1⟩, ⟨r0, r1⟩, ⟨s0, s1⟩⟩ := h
  simp only at p0 p1 q0 q1 r0 r1 s0 s1
  go_enter Try.func42, Try.ntmps42
  go_wp2
  go_quiet (fail)
  go_wp2_with (go_at_call 52; (with_reducible refine (rotl64 _ _ _ (by first | assumption | exact (b64 _ _ _).1 | exact (rot64_bd _ _).1 | exact (wrap64_bd _).1 | omega) (by first | assumption | exact (b64 _ _ _).2 | exact (rot64_bd _ _).2 | exact (wrap64_bd _).2 | omega) (by decide) (by decide)).mono ?_); rintro e w' ⟨rfl, rfl⟩)
  refine bodyPost_ret (v := .agg #[.int .u64 (round ⟨p, q, r, s⟩).p, .int .u64 (round ⟨p, q, r, s⟩).q, .int .u64 (round ⟨p, q, r, s⟩).r, .int .u64 (round ⟨p, q, r, s⟩).s]) (by simp [results, Try.results42, go_sem, round, add64, xor64, IntKind.wrap_u64]) rfl ⟨rfl, ?_⟩
  repeat (first | exact Below.refl _ _ | refine Below.setCell ?_ (by simp) _ | refine Below.alloc ?_ (by simp) _ | refine below_drewN ?_ _)

theorem round_q (f : Quad) (w : World) (h : f.ok) :
    Calls Try.prog 42 #[.agg #[.int .u64 f.p, .int .u64 f.q, .int .u64 f.r, .int .u64 f.s]] w fun e w' => e = .returned (.agg #[.int .u64 (round f).p, .int .u64 (round f).q, .int .u64 (round f).r, .int .u64 (round f).s]) ∧ Below w.heap.size w w' := round_any f.p f.q f.r f.s w h

set_option maxHeartbeats 1000000 in
theorem qplus_any (p q r s m : Int) (w : World) (h : (⟨p, q, r, s⟩ : Quad).ok) :
    Calls Try.prog 41 #[.agg #[.int .u64 p, .int .u64 q, .int .u64 r, .int .u64 s], .int .u64 m] w fun e w' => e = .returned (.agg #[.int .u64 (quadPlus ⟨p, q, r, s⟩ m).p, .int .u64 (quadPlus ⟨p, q, r, s⟩ m).q, .int .u64 (quadPlus ⟨p, q, r, s⟩ m).r, .int .u64 (quadPlus ⟨p, q, r, s⟩ m).s]) ∧ Below w.heap.size w w' := by
  have HR := Lib.hid fun w => round_any p q r (bits .xor .u64 s m) w ⟨h.1, h.2.1, h.2.2.1, b64 .xor s m⟩
  have HE := Lib.hid (show quadPlus ⟨p, q, r, s⟩ m = ⟨xor64 (round (round ⟨p, q, r, bits .xor .u64 s m⟩)).p m, (round (round ⟨p, q, r, bits .xor .u64 s m⟩)).q, (round (round ⟨p, q, r, bits .xor .u64 s m⟩)).r, (round (round ⟨p, q, r, bits .xor .u64 s m⟩)).s⟩ from rfl)
  have HX := Lib.hid (round_ok ⟨p, q, r, bits .xor .u64 s m⟩)
  generalize quadPlus ⟨p, q, r, s⟩ m = Z at *
  generalize round ⟨p, q, r, bits .xor .u64 s m⟩ = X at *
  go_enter Try.func41, Try.ntmps41
  go_wp2_with (first | (go_at_call 42; (with_reducible refine (HR.out _).mono ?_); rintro e w1 ⟨rfl, hb1⟩; have hz1 := hb1.size; simp at hz1) | (go_at_call 42; (with_reducible refine (round_q X _ HX.out).mono ?_); rintro e w2 ⟨rfl, hb2⟩; have hz2 := hb2.size; have c0 : w2.cell? ⟨w.heap.size, 0, none⟩ = some (.int .u64 p) := (hb2.cell (p := ⟨w.heap.size, 0, none⟩) (by simp; omega)).trans ((hb1.cell (p := ⟨w.heap.size, 0, none⟩) (by simp; omega)).trans (by go_simp)); have f0 : w2.frozen? ⟨w.heap.size, 0, none⟩ = false := (hb2.frozen (p := ⟨w.heap.size, 0, none⟩) (by simp; omega)).trans ((hb1.frozen (p := ⟨w.heap.size, 0, none⟩) (by simp; omega)).trans (by go_simp)); have d0 : w2.cell? ⟨w.heap.size + 1, 0, none⟩ = some (.int .u64 0) := (hb2.cell (p := ⟨w.heap.size + 1, 0, none⟩) (by simp; omega)).trans ((hb1.cell (p := ⟨w.heap.size + 1, 0, none⟩) (by simp)).trans (by go_simp)); have h0 : w2.frozen? ⟨w.heap.size + 1, 0, none⟩ = false := (hb2.frozen (p := ⟨w.heap.size + 1, 0, none⟩) (by simp; omega)).trans ((hb1.frozen (p := ⟨w.heap.size + 1, 0, none⟩) (by simp)).trans (by go_simp)); have c1 : w2.cell? ⟨w.heap.size, 1, none⟩ = some (.int .u64 q) := (hb2.cell (p := ⟨w.heap.size, 1, none⟩) (by simp; omega)).trans ((hb1.cell (p := ⟨w.heap.size, 1, none⟩) (by simp; omega)).trans (by go_simp)); have f1 : w2.frozen? ⟨w.heap.size, 1, none⟩ = false := (hb2.frozen (p := ⟨w.heap.size, 1, none⟩) (by simp; omega)).trans ((hb1.frozen (p := ⟨w.heap.size, 1, none⟩) (by simp; omega)).trans (by go_simp)); have d1 : w2.cell? ⟨w.heap.size + 1, 1, none⟩ = some (.int .u64 0) := (hb2.cell (p := ⟨w.heap.size + 1, 1, none⟩) (by simp; omega)).trans ((hb1.cell (p := ⟨w.heap.size + 1, 1, none⟩) (by simp)).trans (by go_simp)); have h1 : w2.frozen? ⟨w.heap.size + 1, 1, none⟩ = false := (hb2.frozen (p := ⟨w.heap.size + 1, 1, none⟩) (by simp; omega)).trans ((hb1.frozen (p := ⟨w.heap.size + 1, 1, none⟩) (by simp)).trans (by go_simp)); have c2 : w2.cell? ⟨w.heap.size, 2, none⟩ = some (.int .u64 r) := (hb2.cell (p := ⟨w.heap.size, 2, none⟩) (by simp; omega)).trans ((hb1.cell (p := ⟨w.heap.size, 2, none⟩) (by simp; omega)).trans (by go_simp)); have f2 : w2.frozen? ⟨w.heap.size, 2, none⟩ = false := (hb2.frozen (p := ⟨w.heap.size, 2, none⟩) (by simp; omega)).trans ((hb1.frozen (p := ⟨w.heap.size, 2, none⟩) (by simp; omega)).trans (by go_simp)); have d2 : w2.cell? ⟨w.heap.size + 1, 2, none⟩ = some (.int .u64 0) := (hb2.cell (p := ⟨w.heap.size + 1, 2, none⟩) (by simp; omega)).trans ((hb1.cell (p := ⟨w.heap.size + 1, 2, none⟩) (by simp)).trans (by go_simp)); have h2 : w2.frozen? ⟨w.heap.size + 1, 2, none⟩ = false := (hb2.frozen (p := ⟨w.heap.size + 1, 2, none⟩) (by simp; omega)).trans ((hb1.frozen (p := ⟨w.heap.size + 1, 2, none⟩) (by simp)).trans (by go_simp)); have c3 : w2.cell? ⟨w.heap.size, 3, none⟩ = some (.int .u64 (bits .xor .u64 s m)) := (hb2.cell (p := ⟨w.heap.size, 3, none⟩) (by simp; omega)).trans ((hb1.cell (p := ⟨w.heap.size, 3, none⟩) (by simp; omega)).trans (by go_simp)); have f3 : w2.frozen? ⟨w.heap.size, 3, none⟩ = false := (hb2.frozen (p := ⟨w.heap.size, 3, none⟩) (by simp; omega)).trans ((hb1.frozen (p := ⟨w.heap.size, 3, none⟩) (by simp; omega)).trans (by go_simp)); have d3 : w2.cell? ⟨w.heap.size + 1, 3, none⟩ = some (.int .u64 0) := (hb2.cell (p := ⟨w.heap.size + 1, 3, none⟩) (by simp; omega)).trans ((hb1.cell (p := ⟨w.heap.size + 1, 3, none⟩) (by simp)).trans (by go_simp)); have h3 : w2.frozen? ⟨w.heap.size + 1, 3, none⟩ = false := (hb2.frozen (p := ⟨w.heap.size + 1, 3, none⟩) (by simp; omega)).trans ((hb1.frozen (p := ⟨w.heap.size + 1, 3, none⟩) (by simp)).trans (by go_simp))))
  refine bodyPost_ret (v := .agg #[.int .u64 (bits .xor .u64 (round X).p m), .int .u64 (round X).q, .int .u64 (round X).r, .int .u64 (round X).s]) (by simp [results, Try.results41, go_sem, d0, d1, d2, d3]) rfl ⟨by rw [HE.out]; rfl, ?_⟩
  have hb : Below w.heap.size w w2 := by
    refine Below.trans ?_ ((hb1.mono (B' := w.heap.size) (by simp; omega)).trans (hb2.mono (B' := w.heap.size) (by omega)))
    repeat (first | exact Below.refl _ _ | refine Below.setCell ?_ (by simp) _ | refine Below.alloc ?_ (by simp) _)
  repeat (first | (with_reducible exact hb) | refine Below.setCell ?_ (by simp) _)

theorem qplus_q (f : Quad) (m : Int) (w : World) (h : f.ok) :
    Calls Try.prog 41 #[.agg #[.int .u64 f.p, .int .u64 f.q, .int .u64 f.r, .int .u64 f.s], .int .u64 m] w fun e w' => e = .returned (.agg #[.int .u64 (quadPlus f m).p, .int .u64 (quadPlus f m).q, .int .u64 (quadPlus f m).r, .int .u64 (quadPlus f m).s]) ∧ Below w.heap.size w w' := qplus_any f.p f.q f.r f.s m w h
end Go.Proofs.Ytmkpeidgimgdlaa.Sa
