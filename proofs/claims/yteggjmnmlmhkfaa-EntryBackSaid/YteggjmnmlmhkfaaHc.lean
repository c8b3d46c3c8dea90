/-
  What adding at most twelve bytes to three numbers answers.
-/
import Derived.Test.YteggjmnmlmhkfaaHb
import Derived.Test.YteggjmnmlmhkfaaLeB
namespace Go.Proofs.Yteggjmnmlmhkfaa.Hc
open Go.ChangeShapes Go.WideShapes Go.ChangeAt Go.RowKit
open Bytes8 Blk8 LeNum LeA LeB Hm Ha Hb
set_option linter.unusedVariables false
set_option maxRecDepth 100000

theorem size8 : (Try.prog.info? 5).map (·.size) = some 1 := by kernel_rfl

theorem spliced (l : List Int) (n : Nat) (h : l.length ≤ n) : splice ((List.replicate n (0 : Int)).map (Value.int .u8)) 0 (l.map (Value.int .u8)) = (l ++ List.replicate (n - l.length) 0).map (Value.int .u8) := by
  simp [splice]

theorem drop_pad (l : List Int) (o m n : Nat) : leNum (((l ++ List.replicate m 0).drop o).take n) = leNum ((l.drop o).take n) := by
  rw [List.drop_append, List.take_append]
  by_cases h : o ≤ l.length
  · rw [show o - l.length = 0 by omega, List.drop_zero, List.take_replicate]
    exact leNum_zeros _ _
  · rw [List.drop_of_length_le (by omega : l.length ≤ o), List.drop_replicate, List.take_replicate]
    exact leNum_zeros _ _

theorem get12_0 (A : Option Addr) (m : List Int) (v : Int) (w : World) (hb : Bytes w A m) (hL : m.length = 12) (hv : leNum ((m.drop 0).take 4) = v) :
    Calls Try.prog 44 #[.slice A 12 12, .int .i64 0, .int .i64 4] w fun e w' => e = .returned (.tuple #[.int .u64 v, .bool true]) ∧ w = w' := by
  have h := get_yes A m 12 0 4 w (by omega) (by rw [hL]; decide) hb (by decide) (by decide) (by omega)
  rw [hL, hv] at h; exact h
theorem get12_4 (A : Option Addr) (m : List Int) (v : Int) (w : World) (hb : Bytes w A m) (hL : m.length = 12) (hv : leNum ((m.drop 4).take 4) = v) :
    Calls Try.prog 44 #[.slice A 12 12, .int .i64 4, .int .i64 4] w fun e w' => e = .returned (.tuple #[.int .u64 v, .bool true]) ∧ w = w' := by
  have h := get_yes A m 12 4 4 w (by omega) (by rw [hL]; decide) hb (by decide) (by decide) (by omega)
  rw [hL, hv] at h; exact h
theorem get12_8 (A : Option Addr) (m : List Int) (v : Int) (w : World) (hb : Bytes w A m) (hL : m.length = 12) (hv : leNum ((m.drop 8).take 4) = v) :
    Calls Try.prog 44 #[.slice A 12 12, .int .i64 8, .int .i64 4] w fun e w' => e = .returned (.tuple #[.int .u64 v, .bool true]) ∧ w = w' := by
  have h := get_yes A m 12 8 4 w (by omega) (by rw [hL]; decide) hb (by decide) (by decide) (by omega)
  rw [hL, hv] at h; exact h

theorem drop_pad4 (l : List Int) (o m : Nat) : leNum (((l ++ List.replicate m 0).drop o).take 4) = w4 l o := drop_pad l o m 4

set_option maxHeartbeats 1000000 in
theorem plus_any (x y z : Int) (a : Option Addr) (l : List Int) (len cap : Nat) (w : World) (hb : Bytes w a l) (hL : l.length = len) (hlen : len ≤ 12) (ht : (⟨x, y, z⟩ : Trio).ok) :
    Calls Try.prog 53 #[.agg #[.int .u32 x, .int .u32 y, .int .u32 z], .slice a len cap] w fun e w' => e = .returned (trioV (plus3 ⟨x, y, z⟩ l 0)) ∧ Below w.heap.size w w' := by
  subst hL
  have HS := Lib.hid hb.source
  have hA := hb.1
  have hP := spliced l 12 hlen
  obtain ⟨p0, q0⟩ := w4_bd l 0 hA
  obtain ⟨p4, q4⟩ := w4_bd l 4 hA
  obtain ⟨p8, q8⟩ := w4_bd l 8 hA
  have HP := Lib.hid hP
  have HA := Lib.hid (hA.app (AllB.zeros (12 - l.length)))
  have HL := Lib.hid (show (l ++ List.replicate (12 - l.length) (0 : Int)).length = 12 by simp; omega)
  have E0 := Lib.hid (drop_pad4 l 0 (12 - l.length))
  have E4 := Lib.hid (drop_pad4 l 4 (12 - l.length))
  have E8 := Lib.hid (drop_pad4 l 8 (12 - l.length))
  generalize l ++ List.replicate (12 - l.length) (0 : Int) = m at *
  obtain ⟨⟨x0, x1⟩, ⟨y0, y1⟩, ⟨z0, z1⟩⟩ := ht
  simp only at x0 x1 y0 y1 z0 z1
  clear hP hA hb
  go_enter Try.func53, Try.ntmps53
  go_wp2_with (refine wpList_copy_splice rfl (.tmp 12) (.tmp 13) 22 22 rfl 5 Try.underlying22 size8 _ _ _ _ _ _ rfl rfl (w.heap.size + 1 + 1) 0 _ 113 (Blk.new_at _ ((List.replicate 12 (0 : Int)).map (Value.int .u8)) _ _ (by simp)) (l.map (Value.int .u8)) ?hn ?hpos ?hfit ?h1 (w.heap.size + 1 + 1) _ (Below.refl _ _) (Nat.le_refl _) ?_; rotate_right; intro w3 hrow3 hbel3)
  case hn => simpa using (Nat.min_eq_left hlen).symm
  case hpos =>
    intro hp
    obtain ⟨ad, e, h⟩ := HS.out _ ((((Below.refl _ _).alloc (Nat.le_refl _) _).alloc (by simp) _).alloc (by simp; omega) _) (by simpa using hp)
    refine ⟨ad, e, fun j v hv => ?_⟩
    exact h j v hv
  case hfit => simp; omega
  case h1 => intro v hv; obtain ⟨x, _, rfl⟩ := List.mem_map.1 hv; rfl
  rw [HP.out] at hrow3
  have hB3 : Bytes w3 (some ⟨w.heap.size + 1 + 1, 0, none⟩) m := Blk.bytes hrow3.out HA.out
  have HB3 := Lib.hid hB3
  have c0 : w3.cell? ⟨w.heap.size, 0, none⟩ = some (.int .u32 x) := (hbel3.cell (p := ⟨w.heap.size, 0, none⟩) (by simp; omega)).trans (by go_simp)
  have c1 : w3.cell? ⟨w.heap.size, 1, none⟩ = some (.int .u32 y) := (hbel3.cell (p := ⟨w.heap.size, 1, none⟩) (by simp; omega)).trans (by go_simp)
  have c2 : w3.cell? ⟨w.heap.size, 2, none⟩ = some (.int .u32 z) := (hbel3.cell (p := ⟨w.heap.size, 2, none⟩) (by simp; omega)).trans (by go_simp)
  have d0 : w3.cell? ⟨w.heap.size + 1, 0, none⟩ = some (.int .u32 0) := (hbel3.cell (p := ⟨w.heap.size + 1, 0, none⟩) (by simp)).trans (by go_simp)
  have f0 : w3.frozen? ⟨w.heap.size + 1, 0, none⟩ = false := (hbel3.frozen (p := ⟨w.heap.size + 1, 0, none⟩) (by simp)).trans (by go_simp)
  have d1 : w3.cell? ⟨w.heap.size + 1, 1, none⟩ = some (.int .u32 0) := (hbel3.cell (p := ⟨w.heap.size + 1, 1, none⟩) (by simp)).trans (by go_simp)
  have f1 : w3.frozen? ⟨w.heap.size + 1, 1, none⟩ = false := (hbel3.frozen (p := ⟨w.heap.size + 1, 1, none⟩) (by simp)).trans (by go_simp)
  have d2 : w3.cell? ⟨w.heap.size + 1, 2, none⟩ = some (.int .u32 0) := (hbel3.cell (p := ⟨w.heap.size + 1, 2, none⟩) (by simp)).trans (by go_simp)
  have f2 : w3.frozen? ⟨w.heap.size + 1, 2, none⟩ = false := (hbel3.frozen (p := ⟨w.heap.size + 1, 2, none⟩) (by simp)).trans (by go_simp)
  have hz := hbel3.size
  simp at hz
  have HX := Lib.hid hbel3
  clear hrow3 hB3 hbel3
  go_wp2_with (first | (go_at_call 44; (with_reducible refine (get12_0 _ _ (w4 l 0) _ HB3.out HL.out E0.out).mono ?_); rintro e w' ⟨rfl, rfl⟩) | (go_at_call 44; (with_reducible refine (get12_4 _ _ (w4 l 4) _ HB3.out HL.out E4.out).mono ?_); rintro e w' ⟨rfl, rfl⟩) | (go_at_call 44; (with_reducible refine (get12_8 _ _ (w4 l 8) _ HB3.out HL.out E8.out).mono ?_); rintro e w' ⟨rfl, rfl⟩))
  refine bodyPost_ret (v := trioV (plus3 ⟨x, y, z⟩ l 0)) (by simp [results, Try.results53, go_sem, trioV, plus3, add32, d0, d1, d2]) rfl ⟨rfl, ?_⟩
  have hb1 : Below w.heap.size w w3 := ((((Below.refl _ _).alloc (Nat.le_refl _) _).alloc (by simp) _).alloc (by simp; omega) _).trans (HX.out.mono (by omega))
  repeat (first | exact hb1 | refine Below.setCell ?_ (by simp) _ | refine Below.alloc ?_ (by simp) _ | refine below_drewN ?_ _)
end Go.Proofs.Yteggjmnmlmhkfaa.Hc
