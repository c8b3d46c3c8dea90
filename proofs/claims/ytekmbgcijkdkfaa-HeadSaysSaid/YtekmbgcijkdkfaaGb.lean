/-
  A head handed on as the package's.
-/
import Derived.Test.YtekmbgcijkdkfaaGa
namespace Go.Proofs.Ytekmbgcijkdkfaa.Gb
open Go.ChangeShapes Go.WideShapes Go.ChangeAt Go.RowKit
open Bytes8 Blk8 Own8 OwnM LeNum Ob Oc Od Ga
set_option linter.unusedVariables false
set_option linter.unusedSimpArgs false
set_option maxRecDepth 100000

theorem wpList_build_as {P : Program} {ops : Array Oper} {rest : List Oper} {o : Oper} {a : Act} {w : World} {Q : Exit → Act → World → Prop} (hg : o.guard = none) (t : TypeId) (parts : Array (Nat × Operand)) (ho : o.op = .build t parts) (cells : Array Value)
    (hb : P.built t (parts.map fun (i, x) => (i, a.eval x)).toList = some cells) (h : wpList P ops Q rest (a.put o.dst (.agg cells)) w) : wpList P ops Q (o :: rest) a w :=
  wpList_build hg t parts ho (by rw [hb]; rfl) (by rw [hb]; exact h)
/-- The operation that writes this slot; the one that stores. -/
theorem at_slot (n : Nat) {P : Program} {ops : Array Oper} {Q : Exit → Act → World → Prop} {rest : List Oper} {a : Act} {w : World} {op : Op} {ty : TypeId} {pos : String} {af : Array Edge} {gd : Option (Nat × Bool)}
    (h : wpList P ops Q (⟨some n, op, ty, pos, af, gd⟩ :: rest) a w) : wpList P ops Q (⟨some n, op, ty, pos, af, gd⟩ :: rest) a w := h
theorem at_store (x y : Operand) {P : Program} {ops : Array Oper} {Q : Exit → Act → World → Prop} {rest : List Oper} {a : Act} {w : World} {t ty : TypeId} {pos : String} {af : Array Edge} {gd : Option (Nat × Bool)}
    (h : wpList P ops Q (⟨none, .store t x y, ty, pos, af, gd⟩ :: rest) a w) : wpList P ops Q (⟨none, .store t x y, ty, pos, af, gd⟩ :: rest) a w := h
theorem headInfo : (Try.prog.info? 40).map (·.size) = some 91 := by kernel_rfl
theorem rheadInfo : (Try.prog.info? 45).map (·.size) = some 90 := by kernel_rfl
theorem idInfo : (Try.prog.info? 24).map (·.size) = some 16 := by kernel_rfl
theorem n20Info : (Try.prog.info? 43).map (·.size) = some 20 := by kernel_rfl
/-- With one number more. -/
def HD.plus (h : HD) (d : Int) : HD := { h with N := fun i => if i < 20 then h.N i else d }
def idc (h : HD) (k : Nat) : List Value := (h.id k).map (Value.int .u8)
def n20c (h : HD) : List Value := (h.nums 20).map (Value.int .u64)
theorem id_range {w : World} {g : Nat} {T : TypeId} {h : HD} {m : Nat} (hb : Blk w g (h.cells m) T) (k : Nat) (hk : k < 4) : w.rangeAt g (3 + 16 * k) (idc h k) := fun j v hj => by
  have hlt : j < 16 := by
    have := (List.getElem?_eq_some_iff.1 hj).1
    simpa [idc, HD.id_len] using this
  rw [Nat.add_assoc, hb.cell (h.get_I m (16 * k + j) (by omega)), ← hj]
  simp [idc, HD.id, hlt]
theorem n_range {w : World} {g : Nat} {T : TypeId} {h : HD} {m : Nat} (hb : Blk w g (h.cells m) T) (hm : 20 ≤ m) : w.rangeAt g 67 (n20c h) := fun j v hj => by
  have hlt : j < 20 := by
    have := (List.getElem?_eq_some_iff.1 hj).1
    simpa [n20c, HD.nums_len] using this
  rw [hb.cell (h.get_N m j (by omega)), ← hj]
  simp [n20c, HD.nums, hlt]
abbrev z20 : List Value := [.int .u64 0, .int .u64 0, .int .u64 0, .int .u64 0, .int .u64 0, .int .u64 0, .int .u64 0, .int .u64 0, .int .u64 0, .int .u64 0, .int .u64 0, .int .u64 0, .int .u64 0, .int .u64 0, .int .u64 0, .int .u64 0, .int .u64 0, .int .u64 0, .int .u64 0, .int .u64 0]
theorem n20_one (h : HD) : (n20c h).toArray.all (·.oneCell') = true := by
  rw [Array.all_eq_true_iff_forall_mem]
  intro x hx
  simp only [n20c, List.mem_toArray, List.mem_map] at hx
  obtain ⟨i, _, rfl⟩ := hx
  rfl
theorem n20_get (h : HD) (i : Nat) (hi : i < 20) : (n20c h)[i]? = some (.int .u64 (h.N i)) := by simp [n20c, HD.nums, hi]

theorem idc_info (h : HD) (k : Nat) : (Try.prog.info? 24).map (·.size) = some (idc h k).length := by rw [idInfo]; simp [idc, HD.id_len]
theorem n20_info (h : HD) : (Try.prog.info? 43).map (·.size) = some (n20c h).length := by rw [n20Info]; simp [n20c, HD.nums_len]
theorem cells_info (h : HD) : (Try.prog.info? 40).map (·.size) = some (h.cells 21).toArray.size := by rw [headInfo]; simp [HD.len]
theorem zeros_size {h : HD} : Try.zeroCells40.size = (h.cells 21).toArray.size := by rw [show Try.zeroCells40.size = 91 by kernel_rfl]; simp [HD.len]
attribute [local irreducible] idc n20c HD.cells wpList Code.wp
set_option maxHeartbeats 1000000 in
theorem of_any (h : HD) (d : Int) (w : World) :
    Calls Try.prog 15 #[.agg (h.cells 20).toArray, .int .u64 d] w fun e w' => e = .returned (.agg ((HD.plus h d).cells 21).toArray) ∧ Below w.heap.size w w' := by
  have b0 := Lib.hid ((Below.refl w.heap.size w).alloc (Nat.le_refl _) (.cells (h.cells 20).toArray 45))
  have R0 := Lib.hid (show Blk (w.alloc (.cells (h.cells 20).toArray 45)) w.heap.size (h.cells 20) 45 from Blk.new w _ _)
  go_enter Try.func15, Try.ntmps15
  go_upto_region 1 with fail
  have b1 := Lib.hid (b0.out.alloc (by simp) (.cells Try.zeroCells40 40))
  have R1 := Lib.hid (R0.out.alloc (.cells Try.zeroCells40 40))
  have Z1 := Lib.hid (show ((w.alloc (.cells (h.cells 20).toArray 45)).alloc (.cells Try.zeroCells40 40)).heap[w.heap.size + 1]? = some (.cells Try.zeroCells40 40 (0, 0)) from heap_alloc2_new w _ _)
  have S1 := Lib.hid (show ((w.alloc (.cells (h.cells 20).toArray 45)).alloc (.cells Try.zeroCells40 40)).heap.size = w.heap.size + 2 by simp)
  generalize (w.alloc (.cells (h.cells 20).toArray 45)).alloc (.cells Try.zeroCells40 40) = w1 at *
  go_upto_region 2 with (first
    | (refine wpList_load_mid rfl 43 (.tmp 6) rfl w.heap.size 67 rfl (n20c h) _ (n_range R1.out (Nat.le_refl _)) Try.underlying43 rfl (n20_info h) ?_)
    | (refine wpList_store_row rfl 43 (.tmp 5) (.tmp 7) rfl w1.heap.size (n20c h).toArray rfl rfl 43 _ (Blk.new w1 z20 43) (by rw [n20Info]; simp [show (n20c h).length = 20 by have := n20_info h; rw [n20Info] at this; injection this with this; exact this.symm]) (by simp [show (n20c h).length = 20 by have := n20_info h; rw [n20Info] at this; injection this with this; exact this.symm]) (n20_one h) ?_))
  have N2 := Lib.hid (show Blk ((w1.alloc (.cells z20.toArray 43)).setRow w1.heap.size (n20c h).toArray) w1.heap.size (n20c h) 43 from setRow_heap _ w1.heap.size _ _ _ (0, 0) (Blk.new w1 z20 43))
  have B2 := Lib.hid (show Below w1.heap.size w1 ((w1.alloc (.cells z20.toArray 43)).setRow w1.heap.size (n20c h).toArray) from below_setRow ((Below.refl w1.heap.size w1).alloc (Nat.le_refl _) _) (Nat.le_refl _) _)
  generalize (w1.alloc (.cells z20.toArray 43)).setRow w1.heap.size (n20c h).toArray = w2 at *
  have R2 := Lib.hid (R1.out.below B2.out R1.out.lt)
  have Z2 := Lib.hid ((B2.out.block (w.heap.size + 1) (by rw [S1.out]; exact Nat.lt_succ_self _)).trans Z1.out)
  have c0 : w2.cell? ⟨w.heap.size, 0, none⟩ = some (.int .u32 h.cp) := R2.out.cell (h.get 20 0 (by decide))
  have c1 : w2.cell? ⟨w.heap.size, 1, none⟩ = some (.int .u32 h.ic) := R2.out.cell (h.get 20 1 (by decide))
  have c2 : w2.cell? ⟨w.heap.size, 2, none⟩ = some (.int .i64 h.st) := R2.out.cell (h.get 20 2 (by decide))
  have c87 : w2.cell? ⟨w.heap.size, 87, none⟩ = some (.int .u32 h.ta) := R2.out.cell (h.get_ta 20)
  have c88 : w2.cell? ⟨w.heap.size, 88, none⟩ = some (.int .u32 h.ti) := R2.out.cell (h.get_ti 20)
  have c89 : w2.cell? ⟨w.heap.size, 89, none⟩ = some (.int .u64 h.te) := R2.out.cell (h.get_te 20)
  have n0 : w2.cell? ⟨w1.heap.size, 0, none⟩ = some (.int .u64 (h.N 0)) := N2.out.cell (n20_get h 0 (by decide))
  have n1 : w2.cell? ⟨w1.heap.size, 1, none⟩ = some (.int .u64 (h.N 1)) := N2.out.cell (n20_get h 1 (by decide))
  have n2 : w2.cell? ⟨w1.heap.size, 2, none⟩ = some (.int .u64 (h.N 2)) := N2.out.cell (n20_get h 2 (by decide))
  have n3 : w2.cell? ⟨w1.heap.size, 3, none⟩ = some (.int .u64 (h.N 3)) := N2.out.cell (n20_get h 3 (by decide))
  have n4 : w2.cell? ⟨w1.heap.size, 4, none⟩ = some (.int .u64 (h.N 4)) := N2.out.cell (n20_get h 4 (by decide))
  have n5 : w2.cell? ⟨w1.heap.size, 5, none⟩ = some (.int .u64 (h.N 5)) := N2.out.cell (n20_get h 5 (by decide))
  have n6 : w2.cell? ⟨w1.heap.size, 6, none⟩ = some (.int .u64 (h.N 6)) := N2.out.cell (n20_get h 6 (by decide))
  have n7 : w2.cell? ⟨w1.heap.size, 7, none⟩ = some (.int .u64 (h.N 7)) := N2.out.cell (n20_get h 7 (by decide))
  have n8 : w2.cell? ⟨w1.heap.size, 8, none⟩ = some (.int .u64 (h.N 8)) := N2.out.cell (n20_get h 8 (by decide))
  have n9 : w2.cell? ⟨w1.heap.size, 9, none⟩ = some (.int .u64 (h.N 9)) := N2.out.cell (n20_get h 9 (by decide))
  have n10 : w2.cell? ⟨w1.heap.size, 10, none⟩ = some (.int .u64 (h.N 10)) := N2.out.cell (n20_get h 10 (by decide))
  have n11 : w2.cell? ⟨w1.heap.size, 11, none⟩ = some (.int .u64 (h.N 11)) := N2.out.cell (n20_get h 11 (by decide))
  have n12 : w2.cell? ⟨w1.heap.size, 12, none⟩ = some (.int .u64 (h.N 12)) := N2.out.cell (n20_get h 12 (by decide))
  have n13 : w2.cell? ⟨w1.heap.size, 13, none⟩ = some (.int .u64 (h.N 13)) := N2.out.cell (n20_get h 13 (by decide))
  have n14 : w2.cell? ⟨w1.heap.size, 14, none⟩ = some (.int .u64 (h.N 14)) := N2.out.cell (n20_get h 14 (by decide))
  have n15 : w2.cell? ⟨w1.heap.size, 15, none⟩ = some (.int .u64 (h.N 15)) := N2.out.cell (n20_get h 15 (by decide))
  have n16 : w2.cell? ⟨w1.heap.size, 16, none⟩ = some (.int .u64 (h.N 16)) := N2.out.cell (n20_get h 16 (by decide))
  have n17 : w2.cell? ⟨w1.heap.size, 17, none⟩ = some (.int .u64 (h.N 17)) := N2.out.cell (n20_get h 17 (by decide))
  have n18 : w2.cell? ⟨w1.heap.size, 18, none⟩ = some (.int .u64 (h.N 18)) := N2.out.cell (n20_get h 18 (by decide))
  have n19 : w2.cell? ⟨w1.heap.size, 19, none⟩ = some (.int .u64 (h.N 19)) := N2.out.cell (n20_get h 19 (by decide))
  go_upto_region 3 with (first
    | ((with_reducible apply at_slot 15); refine wpList_load_mid rfl 24 (.tmp 14) rfl w.heap.size 3 rfl (idc h 0) _ (id_range R2.out 0 (by decide)) Try.underlying24 rfl (idc_info h 0) ?_)
    | ((with_reducible apply at_slot 17); refine wpList_load_mid rfl 24 (.tmp 16) rfl w.heap.size 19 rfl (idc h 1) _ (id_range R2.out 1 (by decide)) Try.underlying24 rfl (idc_info h 1) ?_)
    | ((with_reducible apply at_slot 19); refine wpList_load_mid rfl 24 (.tmp 18) rfl w.heap.size 35 rfl (idc h 2) _ (id_range R2.out 2 (by decide)) Try.underlying24 rfl (idc_info h 2) ?_)
    | ((with_reducible apply at_slot 21); refine wpList_load_mid rfl 24 (.tmp 20) rfl w.heap.size 51 rfl (idc h 3) _ (id_range R2.out 3 (by decide)) Try.underlying24 rfl (idc_info h 3) ?_)
    | ((with_reducible apply at_slot 69); refine wpList_build_as rfl 40 _ rfl ((HD.plus h d).cells 21).toArray (by kernel_rfl) ?_)
    | ((with_reducible apply at_store (.tmp 4) (.tmp 69)); refine wpList_store_row rfl 40 (.tmp 4) (.tmp 69) rfl (w.heap.size + 1) ((HD.plus h d).cells 21).toArray rfl rfl 40 Try.zeroCells40 Z2.out (cells_info _) zeros_size (HD.one _ 21) ?_))
  have Z3 := Lib.hid (show Blk (w2.setRow (w.heap.size + 1) ((HD.plus h d).cells 21).toArray) (w.heap.size + 1) ((HD.plus h d).cells 21) 40 from setRow_heap _ _ _ _ _ (0, 0) Z2.out)
  have B3 := Lib.hid (show Below w.heap.size w (w2.setRow (w.heap.size + 1) ((HD.plus h d).cells 21).toArray) from below_setRow (b1.out.trans (B2.out.mono b1.out.size)) (Nat.le_succ _) _)
  generalize w2.setRow (w.heap.size + 1) ((HD.plus h d).cells 21).toArray = w3 at *
  clear c0 c1 c2 c87 c88 c89 n0 n1 n2 n3 n4 n5 n6 n7 n8 n9 n10 n11 n12 n13 n14 n15 n16 n17 n18 n19
  go_wp2
  refine bodyPost_ret (v := .agg ((HD.plus h d).cells 21).toArray) (by exact results_cell_row Try.results15 _ _ (w.heap.size + 1) 40 _ (0, 0) _ rfl Z3.out Try.underlying40 rfl (cells_info _)) rfl ?_
  exact ⟨rfl, B3.out⟩
end Go.Proofs.Ytekmbgcijkdkfaa.Gb
