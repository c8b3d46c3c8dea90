/-
  A cursor's text: the program's way.
-/
import Derived.Test.YtpfkhcgeblihcaaDoorKud
import Derived.Deep.MidRow
import Derived.Deep.RegionHeld3
namespace Go.Proofs.YtpfkhcgeblihcaaDoor.Kue
open Go.ChangeShapes Go.WideShapes Go.ChangeAt Go.RowKit
open Bytes8 Blk8 Own8 Fa Kua Kub Kuc Kud
set_option linter.unusedVariables false
set_option linter.unusedSimpArgs false
set_option maxRecDepth 100000

theorem idc_info {K : Nat → Int} : (Tryd.prog.info? 23).map (·.size) = some (idCells K).length := by
  show (Tryd.prog.info? 23).map (·.size) = some 16
  kernel_rfl
theorem lits : ({ data := #[115, 61] } : ByteArray) = T [115, 61] ∧ ({ data := #[59, 105, 61] } : ByteArray) = T [59, 105, 61] ∧ ({ data := #[59, 98, 61] } : ByteArray) = T [59, 98, 61] ∧ ({ data := #[59, 109, 61] } : ByteArray) = T [59, 109, 61] ∧ ({ data := #[59, 116, 61] } : ByteArray) = T [59, 116, 61] ∧ ({ data := #[59, 120, 61] } : ByteArray) = T [59, 120, 61] := ⟨by decide, by decide, by decide, by decide, by decide, by decide⟩
theorem range_of {w : World} {g o : Nat} {vs l : List Value} {ty : TypeId} (h : Blk w g vs ty) (hl : ∀ j v, l[j]? = some v → vs[o + j]? = some v) : w.rangeAt g o l := fun j v hj => h.cell (hl j v hj)
theorem cur_seq {w : World} {g : Nat} {c : Cur} {ty : TypeId} (h : Blk w g c.cells ty) : w.rangeAt g 0 (idCells c.seq) := range_of h fun j v hj => by
  rcases j with _ | _ | _ | _ | _ | _ | _ | _ | _ | _ | _ | _ | _ | _ | _ | _ | j
  all_goals first | exact hj | (simp [idCells] at hj)
theorem cur_boot {w : World} {g : Nat} {c : Cur} {ty : TypeId} (h : Blk w g c.cells ty) : w.rangeAt g 17 (idCells c.boot) := range_of h fun j v hj => by
  rcases j with _ | _ | _ | _ | _ | _ | _ | _ | _ | _ | _ | _ | _ | _ | _ | _ | j
  all_goals first | exact hj | (simp [idCells] at hj)
theorem cur_held {w : World} {g : Nat} {c : Cur} {ty : TypeId} (h : Blk w g c.cells ty) : w.rangeAt g 0 (idCells c.seq) ∧ w.rangeAt g 17 (idCells c.boot) ∧ w.cell? ⟨g, 16, none⟩ = some (.int .u64 c.n) ∧ w.cell? ⟨g, 33, none⟩ = some (.int .u64 c.mono) ∧ w.cell? ⟨g, 34, none⟩ = some (.int .u64 c.real) ∧ w.cell? ⟨g, 35, none⟩ = some (.int .u64 c.xor) :=
  ⟨cur_seq h, cur_boot h, h.cell rfl, h.cell rfl, h.cell rfl, h.cell rfl⟩
theorem short_int (z : Int) (hz : U64 z) (w : World) (hT : Tab w) : Calls Tryd.prog 30 #[.int .u64 z] w fun e w' => e = .returned (.string (T (shortL z.toNat))) ∧ Below w.heap.size w w' := by
  obtain ⟨h0, h1⟩ := hz
  have h := short_any z.toNat (by omega) w hT
  rw [show ((z.toNat : Nat) : Int) = z by omega] at h
  exact h
def catS (a b : Value) : Sem Value := binOp .add 9 a b
theorem cat_fold (a b : Value) : binOp .add 9 a b = catS a b := rfl
theorem cat_run (l m : List Int) (h : l.length + m.length ≤ 9000000) (W : World) : (catS (.string (T l)) (.string (T m))).run Tryd.prog W = .ok (.string (T (l ++ m))) W := by
  unfold catS
  have h1 := T_size l
  have h2 := T_size m
  rw [← T_app]
  generalize T l = a at *
  generalize T m = b at *
  have h3 : ¬ 9223372036854775807 < a.size + b.size := by omega
  go_simp
  omega
attribute [local go_sem ↓] cat_fold
/-- The text, put together. -/
theorem show_eq (c : Cur) (ok : c.Ok) : ∃ p0 p1 p2 p3 p4 p5 p6 p7 p8 p9 p10 : List Int, (∀ W : World, (catS (.string { data := #[115, 61] }) (.string (T (hexL c.seq)))).run Tryd.prog W = .ok (.string (T p0)) W) ∧ (∀ W : World, (catS (.string (T p0)) (.string { data := #[59, 105, 61] })).run Tryd.prog W = .ok (.string (T p1)) W) ∧ (∀ W : World, (catS (.string (T p1)) (.string (T (shortL c.n.toNat)))).run Tryd.prog W = .ok (.string (T p2)) W) ∧ (∀ W : World, (catS (.string (T p2)) (.string { data := #[59, 98, 61] })).run Tryd.prog W = .ok (.string (T p3)) W) ∧ (∀ W : World, (catS (.string (T p3)) (.string (T (hexL c.boot)))).run Tryd.prog W = .ok (.string (T p4)) W) ∧ (∀ W : World, (catS (.string (T p4)) (.string { data := #[59, 109, 61] })).run Tryd.prog W = .ok (.string (T p5)) W) ∧ (∀ W : World, (catS (.string (T p5)) (.string (T (shortL c.mono.toNat)))).run Tryd.prog W = .ok (.string (T p6)) W) ∧ (∀ W : World, (catS (.string (T p6)) (.string { data := #[59, 116, 61] })).run Tryd.prog W = .ok (.string (T p7)) W) ∧ (∀ W : World, (catS (.string (T p7)) (.string (T (shortL c.real.toNat)))).run Tryd.prog W = .ok (.string (T p8)) W) ∧ (∀ W : World, (catS (.string (T p8)) (.string { data := #[59, 120, 61] })).run Tryd.prog W = .ok (.string (T p9)) W) ∧ (∀ W : World, (catS (.string (T p9)) (.string (T (shortL c.xor.toNat)))).run Tryd.prog W = .ok (.string (T p10)) W) ∧ p10 = showL c := by
  obtain ⟨h1, h2, h3, h4, h5, h6⟩ := lits
  rw [h1, h2, h3, h4, h5, h6]
  have k1 := hex_len c.seq
  have k2 := hex_len c.boot
  have l_n := (short_le (v := c.n.toNat) (by have := ok.n.2; omega)).2
  have l_mono := (short_le (v := c.mono.toNat) (by have := ok.mono.2; omega)).2
  have l_real := (short_le (v := c.real.toNat) (by have := ok.real.2; omega)).2
  have l_xor := (short_le (v := c.xor.toNat) (by have := ok.xor.2; omega)).2
  refine ⟨[115, 61] ++ hexL c.seq, ([115, 61] ++ hexL c.seq) ++ [59, 105, 61], (([115, 61] ++ hexL c.seq) ++ [59, 105, 61]) ++ shortL c.n.toNat, ((([115, 61] ++ hexL c.seq) ++ [59, 105, 61]) ++ shortL c.n.toNat) ++ [59, 98, 61], (((([115, 61] ++ hexL c.seq) ++ [59, 105, 61]) ++ shortL c.n.toNat) ++ [59, 98, 61]) ++ hexL c.boot, ((((([115, 61] ++ hexL c.seq) ++ [59, 105, 61]) ++ shortL c.n.toNat) ++ [59, 98, 61]) ++ hexL c.boot) ++ [59, 109, 61], (((((([115, 61] ++ hexL c.seq) ++ [59, 105, 61]) ++ shortL c.n.toNat) ++ [59, 98, 61]) ++ hexL c.boot) ++ [59, 109, 61]) ++ shortL c.mono.toNat, ((((((([115, 61] ++ hexL c.seq) ++ [59, 105, 61]) ++ shortL c.n.toNat) ++ [59, 98, 61]) ++ hexL c.boot) ++ [59, 109, 61]) ++ shortL c.mono.toNat) ++ [59, 116, 61], (((((((([115, 61] ++ hexL c.seq) ++ [59, 105, 61]) ++ shortL c.n.toNat) ++ [59, 98, 61]) ++ hexL c.boot) ++ [59, 109, 61]) ++ shortL c.mono.toNat) ++ [59, 116, 61]) ++ shortL c.real.toNat, ((((((((([115, 61] ++ hexL c.seq) ++ [59, 105, 61]) ++ shortL c.n.toNat) ++ [59, 98, 61]) ++ hexL c.boot) ++ [59, 109, 61]) ++ shortL c.mono.toNat) ++ [59, 116, 61]) ++ shortL c.real.toNat) ++ [59, 120, 61], (((((((((([115, 61] ++ hexL c.seq) ++ [59, 105, 61]) ++ shortL c.n.toNat) ++ [59, 98, 61]) ++ hexL c.boot) ++ [59, 109, 61]) ++ shortL c.mono.toNat) ++ [59, 116, 61]) ++ shortL c.real.toNat) ++ [59, 120, 61]) ++ shortL c.xor.toNat, fun W => cat_run _ _ (by simp only [List.length_append, List.length_cons, List.length_nil]; omega) W, fun W => cat_run _ _ (by simp only [List.length_append, List.length_cons, List.length_nil]; omega) W, fun W => cat_run _ _ (by simp only [List.length_append, List.length_cons, List.length_nil]; omega) W, fun W => cat_run _ _ (by simp only [List.length_append, List.length_cons, List.length_nil]; omega) W, fun W => cat_run _ _ (by simp only [List.length_append, List.length_cons, List.length_nil]; omega) W, fun W => cat_run _ _ (by simp only [List.length_append, List.length_cons, List.length_nil]; omega) W, fun W => cat_run _ _ (by simp only [List.length_append, List.length_cons, List.length_nil]; omega) W, fun W => cat_run _ _ (by simp only [List.length_append, List.length_cons, List.length_nil]; omega) W, fun W => cat_run _ _ (by simp only [List.length_append, List.length_cons, List.length_nil]; omega) W, fun W => cat_run _ _ (by simp only [List.length_append, List.length_cons, List.length_nil]; omega) W, fun W => cat_run _ _ (by simp only [List.length_append, List.length_cons, List.length_nil]; omega) W, ?_⟩
  unfold showL
  simp only [List.append_assoc]

set_option maxHeartbeats 4000000 in
theorem show_any (c : Cur) (ok : c.Ok) (w : World) (hT : Tab w) : Calls Tryd.prog 14 #[c.v] w fun e w' => e = .returned (.string (T (showL c))) ∧ Below w.heap.size w w' := by
  have b1 := (Below.refl w.heap.size w).alloc (Nat.le_refl _) (.cells c.cells.toArray 26)
  have R1 := Lib.hid (Blk.new w c.cells 26)
  have HS1 := Lib.hid fun (W : World) (h : Below w.heap.size w W) => hex_any c.seq ok.seq W
  have HS2 := Lib.hid fun (W : World) (h : Below w.heap.size w W) => hex_any c.boot ok.boot W
  have HN1 := Lib.hid fun (W : World) (h : Below w.heap.size w W) => short_int c.n ok.n W (hT.below h)
  have HN2 := Lib.hid fun (W : World) (h : Below w.heap.size w W) => short_int c.mono ok.mono W (hT.below h)
  have HN3 := Lib.hid fun (W : World) (h : Below w.heap.size w W) => short_int c.real ok.real W (hT.below h)
  have HN4 := Lib.hid fun (W : World) (h : Below w.heap.size w W) => short_int c.xor ok.xor W (hT.below h)
  go_enter Tryd.func14, Tryd.ntmps14
  go_upto_region 1 with fail
  dsimp only [Cur.cells] at b1 R1
  change Hid (Blk (w.alloc (.cells #[.int .u8 (c.seq 0), .int .u8 (c.seq 1), .int .u8 (c.seq 2), .int .u8 (c.seq 3), .int .u8 (c.seq 4), .int .u8 (c.seq 5), .int .u8 (c.seq 6), .int .u8 (c.seq 7), .int .u8 (c.seq 8), .int .u8 (c.seq 9), .int .u8 (c.seq 10), .int .u8 (c.seq 11), .int .u8 (c.seq 12), .int .u8 (c.seq 13), .int .u8 (c.seq 14), .int .u8 (c.seq 15), .int .u64 c.n, .int .u8 (c.boot 0), .int .u8 (c.boot 1), .int .u8 (c.boot 2), .int .u8 (c.boot 3), .int .u8 (c.boot 4), .int .u8 (c.boot 5), .int .u8 (c.boot 6), .int .u8 (c.boot 7), .int .u8 (c.boot 8), .int .u8 (c.boot 9), .int .u8 (c.boot 10), .int .u8 (c.boot 11), .int .u8 (c.boot 12), .int .u8 (c.boot 13), .int .u8 (c.boot 14), .int .u8 (c.boot 15), .int .u64 c.mono, .int .u64 c.real, .int .u64 c.xor] 26)) _ _ _) at R1
  generalize w.alloc (.cells #[.int .u8 (c.seq 0), .int .u8 (c.seq 1), .int .u8 (c.seq 2), .int .u8 (c.seq 3), .int .u8 (c.seq 4), .int .u8 (c.seq 5), .int .u8 (c.seq 6), .int .u8 (c.seq 7), .int .u8 (c.seq 8), .int .u8 (c.seq 9), .int .u8 (c.seq 10), .int .u8 (c.seq 11), .int .u8 (c.seq 12), .int .u8 (c.seq 13), .int .u8 (c.seq 14), .int .u8 (c.seq 15), .int .u64 c.n, .int .u8 (c.boot 0), .int .u8 (c.boot 1), .int .u8 (c.boot 2), .int .u8 (c.boot 3), .int .u8 (c.boot 4), .int .u8 (c.boot 5), .int .u8 (c.boot 6), .int .u8 (c.boot 7), .int .u8 (c.boot 8), .int .u8 (c.boot 9), .int .u8 (c.boot 10), .int .u8 (c.boot 11), .int .u8 (c.boot 12), .int .u8 (c.boot 13), .int .u8 (c.boot 14), .int .u8 (c.boot 15), .int .u64 c.mono, .int .u64 c.real, .int .u64 c.xor] 26) = w1 at *
  have HC := Lib.hid fun (W : World) (h : Below w1.heap.size w1 W) => show (fun W : World => W.rangeAt w.heap.size 0 (idCells c.seq) ∧ W.rangeAt w.heap.size 17 (idCells c.boot) ∧ W.cell? ⟨w.heap.size, 16, none⟩ = some (.int .u64 c.n) ∧ W.cell? ⟨w.heap.size, 33, none⟩ = some (.int .u64 c.mono) ∧ W.cell? ⟨w.heap.size, 34, none⟩ = some (.int .u64 c.real) ∧ W.cell? ⟨w.heap.size, 35, none⟩ = some (.int .u64 c.xor)) W from
    cur_held (R1.out.below h R1.out.lt)
  have BW := Lib.hid b1
  have B1 := Lib.hid ((Below.refl w1.heap.size w1).drew)
  have HBW := Lib.hid fun (W : World) (h : Below w1.heap.size w1 W) => show Below w.heap.size w W from BW.out.trans (h.mono BW.out.size)
  have XHS1 := Lib.hid fun (W : World) (h : Below w1.heap.size w1 W) => HS1.out W (HBW.out W h)
  have XHS2 := Lib.hid fun (W : World) (h : Below w1.heap.size w1 W) => HS2.out W (HBW.out W h)
  have XHN1 := Lib.hid fun (W : World) (h : Below w1.heap.size w1 W) => HN1.out W (HBW.out W h)
  have XHN2 := Lib.hid fun (W : World) (h : Below w1.heap.size w1 W) => HN2.out W (HBW.out W h)
  have XHN3 := Lib.hid fun (W : World) (h : Below w1.heap.size w1 W) => HN3.out W (HBW.out W h)
  have XHN4 := Lib.hid fun (W : World) (h : Below w1.heap.size w1 W) => HN4.out W (HBW.out W h)
  obtain ⟨p0, p1, p2, p3, p4, p5, p6, p7, p8, p9, p10, A0, A1, A2, A3, A4, A5, A6, A7, A8, A9, A10, he⟩ := show_eq c ok
  have HE := Lib.hid he
  clear he
  clear b1 R1 HS1 HS2 HN1 HN2 HN3 HN4
  generalize hg : w.heap.size = g at *
  have HG := Lib.hid hg
  clear hg
  refine wp_region_noPanic ?_
  refine wp_region_held_drew (S := fun W : World => W.rangeAt g 0 (idCells c.seq) ∧ W.rangeAt g 17 (idCells c.boot) ∧ W.cell? ⟨g, 16, none⟩ = some (.int .u64 c.n) ∧ W.cell? ⟨g, 33, none⟩ = some (.int .u64 c.mono) ∧ W.cell? ⟨g, 34, none⟩ = some (.int .u64 c.real) ∧ W.cell? ⟨g, 35, none⟩ = some (.int .u64 c.xor)) (by kernel_rfl) (by exact (HC.out _ B1.out)) (fun hHeld => ?_)
  refine wpAnyH_take (i := 0) (oi := ⟨some 3, _, _, _, _, _⟩) (v := ?_) rfl (by kernel_rfl) (by kernel_rfl) (by kernel_rfl) (fun _ _ _ h => h) (Or.inl ⟨by rfl, ?_⟩) (by assumption) ?_
  rotate_left
  · intro W hSw; have hSx := hSw.2.2; go_simp; try (with_reducible rfl)
  try simp only [Act.put, List.setIfInBounds_toArray, List.set_cons_zero, List.set_cons_succ]
  refine wpAnyH_take (i := 1) (oi := ⟨some 4, _, _, _, _, _⟩) rfl (by kernel_rfl) (by kernel_rfl) (by kernel_rfl) (fun _ _ _ h => h) (yieldsIf_load_mid (by rfl) _ _ rfl _ _ rfl _ _ (fun _ h => h.1) Tryd.underlying23 rfl idc_info) (by assumption) ?_
  try simp only [Act.put, List.setIfInBounds_toArray, List.set_cons_zero, List.set_cons_succ]
  refine wpAnyH_take (i := 5) (oi := ⟨some 8, _, _, _, _, _⟩) (v := ?_) rfl (by kernel_rfl) (by kernel_rfl) (by kernel_rfl) (fun _ _ _ h => h) (Or.inl ⟨by rfl, ?_⟩) (by assumption) ?_
  rotate_left
  · intro W hSw; have hSx := hSw.2.2; go_simp; try (with_reducible rfl)
  try simp only [Act.put, List.setIfInBounds_toArray, List.set_cons_zero, List.set_cons_succ]
  refine wpAnyH_take (i := 6) (oi := ⟨some 9, _, _, _, _, _⟩) (v := ?_) rfl (by kernel_rfl) (by kernel_rfl) (by kernel_rfl) (fun _ _ _ h => h) (Or.inl ⟨by rfl, ?_⟩) (by assumption) ?_
  rotate_left
  · intro W hSw; have hSx := hSw.2.2; go_simp; try (with_reducible rfl)
  try simp only [Act.put, List.setIfInBounds_toArray, List.set_cons_zero, List.set_cons_succ]
  refine wpAnyH_take (i := 10) (oi := ⟨some 13, _, _, _, _, _⟩) (v := ?_) rfl (by kernel_rfl) (by kernel_rfl) (by kernel_rfl) (fun _ _ _ h => h) (Or.inl ⟨by rfl, ?_⟩) (by assumption) ?_
  rotate_left
  · intro W hSw; have hSx := hSw.2.2; go_simp; try (with_reducible rfl)
  try simp only [Act.put, List.setIfInBounds_toArray, List.set_cons_zero, List.set_cons_succ]
  refine wpAnyH_take (i := 11) (oi := ⟨some 14, _, _, _, _, _⟩) rfl (by kernel_rfl) (by kernel_rfl) (by kernel_rfl) (fun _ _ _ h => h) (yieldsIf_load_mid (by rfl) _ _ rfl _ _ rfl _ _ (fun _ h => h.2.1) Tryd.underlying23 rfl idc_info) (by assumption) ?_
  try simp only [Act.put, List.setIfInBounds_toArray, List.set_cons_zero, List.set_cons_succ]
  refine wpAnyH_take (i := 15) (oi := ⟨some 18, _, _, _, _, _⟩) (v := ?_) rfl (by kernel_rfl) (by kernel_rfl) (by kernel_rfl) (fun _ _ _ h => h) (Or.inl ⟨by rfl, ?_⟩) (by assumption) ?_
  rotate_left
  · intro W hSw; have hSx := hSw.2.2; go_simp; try (with_reducible rfl)
  try simp only [Act.put, List.setIfInBounds_toArray, List.set_cons_zero, List.set_cons_succ]
  refine wpAnyH_take (i := 16) (oi := ⟨some 19, _, _, _, _, _⟩) (v := ?_) rfl (by kernel_rfl) (by kernel_rfl) (by kernel_rfl) (fun _ _ _ h => h) (Or.inl ⟨by rfl, ?_⟩) (by assumption) ?_
  rotate_left
  · intro W hSw; have hSx := hSw.2.2; go_simp; try (with_reducible rfl)
  try simp only [Act.put, List.setIfInBounds_toArray, List.set_cons_zero, List.set_cons_succ]
  refine wpAnyH_take (i := 20) (oi := ⟨some 23, _, _, _, _, _⟩) (v := ?_) rfl (by kernel_rfl) (by kernel_rfl) (by kernel_rfl) (fun _ _ _ h => h) (Or.inl ⟨by rfl, ?_⟩) (by assumption) ?_
  rotate_left
  · intro W hSw; have hSx := hSw.2.2; go_simp; try (with_reducible rfl)
  try simp only [Act.put, List.setIfInBounds_toArray, List.set_cons_zero, List.set_cons_succ]
  refine wpAnyH_take (i := 21) (oi := ⟨some 24, _, _, _, _, _⟩) (v := ?_) rfl (by kernel_rfl) (by kernel_rfl) (by kernel_rfl) (fun _ _ _ h => h) (Or.inl ⟨by rfl, ?_⟩) (by assumption) ?_
  rotate_left
  · intro W hSw; have hSx := hSw.2.2; go_simp; try (with_reducible rfl)
  try simp only [Act.put, List.setIfInBounds_toArray, List.set_cons_zero, List.set_cons_succ]
  refine wpAnyH_take (i := 25) (oi := ⟨some 28, _, _, _, _, _⟩) (v := ?_) rfl (by kernel_rfl) (by kernel_rfl) (by kernel_rfl) (fun _ _ _ h => h) (Or.inl ⟨by rfl, ?_⟩) (by assumption) ?_
  rotate_left
  · intro W hSw; have hSx := hSw.2.2; go_simp; try (with_reducible rfl)
  try simp only [Act.put, List.setIfInBounds_toArray, List.set_cons_zero, List.set_cons_succ]
  refine wpAnyH_take (i := 26) (oi := ⟨some 29, _, _, _, _, _⟩) (v := ?_) rfl (by kernel_rfl) (by kernel_rfl) (by kernel_rfl) (fun _ _ _ h => h) (Or.inl ⟨by rfl, ?_⟩) (by assumption) ?_
  rotate_left
  · intro W hSw; have hSx := hSw.2.2; go_simp; try (with_reducible rfl)
  try simp only [Act.put, List.setIfInBounds_toArray, List.set_cons_zero, List.set_cons_succ]
  refine wpAnyH_ready (rs := [2]) (by kernel_rfl) (by simp) ?_
  refine AllReadyH.cons (o := ⟨some 5, _, _, _, _, _⟩) rfl (fun K hK => ?_) AllReadyH.nil
  go_simp
  ((with_reducible refine (XHS1.out _ B1.out).mono ?_); rintro e w2 ⟨rfl, hb2⟩; have B2 := Lib.hid (B1.out.trans (hb2.mono B1.out.size)); clear hb2)
  try go_wp2_with fail
  refine hK.out _ _ (by exact (HC.out _ B2.out)) (fun hHeld => ?_)
  clear hK K
  try simp only [Act.put, List.setIfInBounds_toArray, List.set_cons_zero, List.set_cons_succ]
  refine wpAnyH_take (i := 3) (oi := ⟨some 6, _, _, _, _, _⟩) (v := ?_) rfl (by kernel_rfl) (by kernel_rfl) (by kernel_rfl) (fun _ _ _ h => h) (Or.inl ⟨by rfl, ?_⟩) (by assumption) ?_
  rotate_left
  · intro W hSw; have hSx := hSw.2.2; go_simp; try (with_reducible rfl)
  try simp only [Act.put, List.setIfInBounds_toArray, List.set_cons_zero, List.set_cons_succ]
  refine wpAnyH_take (i := 4) (oi := ⟨some 7, _, _, _, _, _⟩) (v := ?_) rfl (by kernel_rfl) (by kernel_rfl) (by kernel_rfl) (fun _ _ _ h => h) (Or.inl ⟨by rfl, ?_⟩) (by assumption) ?_
  rotate_left
  · intro W hSw; have hSx := hSw.2.2; go_simp; try (with_reducible rfl)
  try simp only [Act.put, List.setIfInBounds_toArray, List.set_cons_zero, List.set_cons_succ]
  refine wpAnyH_ready (rs := [7]) (by kernel_rfl) (by simp) ?_
  refine AllReadyH.cons (o := ⟨some 10, _, _, _, _, _⟩) rfl (fun K hK => ?_) AllReadyH.nil
  go_simp
  ((with_reducible refine (XHN1.out _ B2.out).mono ?_); rintro e w3 ⟨rfl, hb3⟩; have B3 := Lib.hid (B2.out.trans (hb3.mono B2.out.size)); clear hb3)
  try go_wp2_with fail
  refine hK.out _ _ (by exact (HC.out _ B3.out)) (fun hHeld => ?_)
  clear hK K
  try simp only [Act.put, List.setIfInBounds_toArray, List.set_cons_zero, List.set_cons_succ]
  refine wpAnyH_take (i := 8) (oi := ⟨some 11, _, _, _, _, _⟩) (v := ?_) rfl (by kernel_rfl) (by kernel_rfl) (by kernel_rfl) (fun _ _ _ h => h) (Or.inl ⟨by rfl, ?_⟩) (by assumption) ?_
  rotate_left
  · intro W hSw; have hSx := hSw.2.2; go_simp; try (with_reducible rfl)
  try simp only [Act.put, List.setIfInBounds_toArray, List.set_cons_zero, List.set_cons_succ]
  refine wpAnyH_take (i := 9) (oi := ⟨some 12, _, _, _, _, _⟩) (v := ?_) rfl (by kernel_rfl) (by kernel_rfl) (by kernel_rfl) (fun _ _ _ h => h) (Or.inl ⟨by rfl, ?_⟩) (by assumption) ?_
  rotate_left
  · intro W hSw; have hSx := hSw.2.2; go_simp; try (with_reducible rfl)
  try simp only [Act.put, List.setIfInBounds_toArray, List.set_cons_zero, List.set_cons_succ]
  refine wpAnyH_ready (rs := [12]) (by kernel_rfl) (by simp) ?_
  refine AllReadyH.cons (o := ⟨some 15, _, _, _, _, _⟩) rfl (fun K hK => ?_) AllReadyH.nil
  go_simp
  ((with_reducible refine (XHS2.out _ B3.out).mono ?_); rintro e w4 ⟨rfl, hb4⟩; have B4 := Lib.hid (B3.out.trans (hb4.mono B3.out.size)); clear hb4)
  try go_wp2_with fail
  refine hK.out _ _ (by exact (HC.out _ B4.out)) (fun hHeld => ?_)
  clear hK K
  try simp only [Act.put, List.setIfInBounds_toArray, List.set_cons_zero, List.set_cons_succ]
  refine wpAnyH_take (i := 13) (oi := ⟨some 16, _, _, _, _, _⟩) (v := ?_) rfl (by kernel_rfl) (by kernel_rfl) (by kernel_rfl) (fun _ _ _ h => h) (Or.inl ⟨by rfl, ?_⟩) (by assumption) ?_
  rotate_left
  · intro W hSw; have hSx := hSw.2.2; go_simp; try (with_reducible rfl)
  try simp only [Act.put, List.setIfInBounds_toArray, List.set_cons_zero, List.set_cons_succ]
  refine wpAnyH_take (i := 14) (oi := ⟨some 17, _, _, _, _, _⟩) (v := ?_) rfl (by kernel_rfl) (by kernel_rfl) (by kernel_rfl) (fun _ _ _ h => h) (Or.inl ⟨by rfl, ?_⟩) (by assumption) ?_
  rotate_left
  · intro W hSw; have hSx := hSw.2.2; go_simp; try (with_reducible rfl)
  try simp only [Act.put, List.setIfInBounds_toArray, List.set_cons_zero, List.set_cons_succ]
  refine wpAnyH_ready (rs := [17]) (by kernel_rfl) (by simp) ?_
  refine AllReadyH.cons (o := ⟨some 20, _, _, _, _, _⟩) rfl (fun K hK => ?_) AllReadyH.nil
  go_simp
  ((with_reducible refine (XHN2.out _ B4.out).mono ?_); rintro e w5 ⟨rfl, hb5⟩; have B5 := Lib.hid (B4.out.trans (hb5.mono B4.out.size)); clear hb5)
  try go_wp2_with fail
  refine hK.out _ _ (by exact (HC.out _ B5.out)) (fun hHeld => ?_)
  clear hK K
  try simp only [Act.put, List.setIfInBounds_toArray, List.set_cons_zero, List.set_cons_succ]
  refine wpAnyH_take (i := 18) (oi := ⟨some 21, _, _, _, _, _⟩) (v := ?_) rfl (by kernel_rfl) (by kernel_rfl) (by kernel_rfl) (fun _ _ _ h => h) (Or.inl ⟨by rfl, ?_⟩) (by assumption) ?_
  rotate_left
  · intro W hSw; have hSx := hSw.2.2; go_simp; try (with_reducible rfl)
  try simp only [Act.put, List.setIfInBounds_toArray, List.set_cons_zero, List.set_cons_succ]
  refine wpAnyH_take (i := 19) (oi := ⟨some 22, _, _, _, _, _⟩) (v := ?_) rfl (by kernel_rfl) (by kernel_rfl) (by kernel_rfl) (fun _ _ _ h => h) (Or.inl ⟨by rfl, ?_⟩) (by assumption) ?_
  rotate_left
  · intro W hSw; have hSx := hSw.2.2; go_simp; try (with_reducible rfl)
  try simp only [Act.put, List.setIfInBounds_toArray, List.set_cons_zero, List.set_cons_succ]
  refine wpAnyH_ready (rs := [22]) (by kernel_rfl) (by simp) ?_
  refine AllReadyH.cons (o := ⟨some 25, _, _, _, _, _⟩) rfl (fun K hK => ?_) AllReadyH.nil
  go_simp
  ((with_reducible refine (XHN3.out _ B5.out).mono ?_); rintro e w6 ⟨rfl, hb6⟩; have B6 := Lib.hid (B5.out.trans (hb6.mono B5.out.size)); clear hb6)
  try go_wp2_with fail
  refine hK.out _ _ (by exact (HC.out _ B6.out)) (fun hHeld => ?_)
  clear hK K
  try simp only [Act.put, List.setIfInBounds_toArray, List.set_cons_zero, List.set_cons_succ]
  refine wpAnyH_take (i := 23) (oi := ⟨some 26, _, _, _, _, _⟩) (v := ?_) rfl (by kernel_rfl) (by kernel_rfl) (by kernel_rfl) (fun _ _ _ h => h) (Or.inl ⟨by rfl, ?_⟩) (by assumption) ?_
  rotate_left
  · intro W hSw; have hSx := hSw.2.2; go_simp; try (with_reducible rfl)
  try simp only [Act.put, List.setIfInBounds_toArray, List.set_cons_zero, List.set_cons_succ]
  refine wpAnyH_take (i := 24) (oi := ⟨some 27, _, _, _, _, _⟩) (v := ?_) rfl (by kernel_rfl) (by kernel_rfl) (by kernel_rfl) (fun _ _ _ h => h) (Or.inl ⟨by rfl, ?_⟩) (by assumption) ?_
  rotate_left
  · intro W hSw; have hSx := hSw.2.2; go_simp; try (with_reducible rfl)
  try simp only [Act.put, List.setIfInBounds_toArray, List.set_cons_zero, List.set_cons_succ]
  refine wpAnyH_ready (rs := [27]) (by kernel_rfl) (by simp) ?_
  refine AllReadyH.cons (o := ⟨some 30, _, _, _, _, _⟩) rfl (fun K hK => ?_) AllReadyH.nil
  go_simp
  ((with_reducible refine (XHN4.out _ B6.out).mono ?_); rintro e w7 ⟨rfl, hb7⟩; have B7 := Lib.hid (B6.out.trans (hb7.mono B6.out.size)); clear hb7)
  try go_wp2_with fail
  refine hK.out _ _ (by exact (HC.out _ B7.out)) (fun hHeld => ?_)
  clear hK K
  try simp only [Act.put, List.setIfInBounds_toArray, List.set_cons_zero, List.set_cons_succ]
  refine wpAnyH_take (i := 28) (oi := ⟨some 31, _, _, _, _, _⟩) (v := ?_) rfl (by kernel_rfl) (by kernel_rfl) (by kernel_rfl) (fun _ _ _ h => h) (Or.inl ⟨by rfl, ?_⟩) (by assumption) ?_
  rotate_left
  · intro W hSw; have hSx := hSw.2.2; go_simp; try (with_reducible rfl)
  try simp only [Act.put, List.setIfInBounds_toArray, List.set_cons_zero, List.set_cons_succ]
  refine wpAnyH_take (i := 29) (oi := ⟨some 2, _, _, _, _, _⟩) (v := ?_) rfl (by kernel_rfl) (by kernel_rfl) (by kernel_rfl) (fun _ _ _ h => h) (Or.inl ⟨by rfl, ?_⟩) (by assumption) ?_
  rotate_left
  · intro W hSw; have hSx := hSw.2.2; go_simp; try (with_reducible rfl)
  try simp only [Act.put, List.setIfInBounds_toArray, List.set_cons_zero, List.set_cons_succ]
  refine wpAnyH_done (by kernel_rfl) ?_ _
  refine NoPanic.normal ?_
  go_wp2
  go_ret
  exact ⟨by rw [← HE.out]; rfl, HG.out ▸ HBW.out _ B7.out⟩
end Go.Proofs.YtpfkhcgeblihcaaDoor.Kue
