/-
  The walk of CursorOrder.
-/
import Derived.Test.YtpfkhcgeblihcaaDoorKug
import Derived.Test.YtpfkhcgeblihcaaDoorNumb
import Derived.Deep.CutRange
import Derived.Deep.MidRow
namespace Go.Proofs.YtpfkhcgeblihcaaDoor.CursorOrderW
open Go.ChangeShapes Go.WideShapes Go.ChangeAt Go.RowKit
open Bytes8 Blk8 Own8 Fa Fo Kua Kub Kuc Kud Kue Kuf Kug Numb
set_option linter.unusedVariables false
set_option linter.unusedSimpArgs false
set_option maxRecDepth 100000

theorem cur_info {c : Cur} : (Tryd.prog.info? 26).map (·.size) = some c.cells.length := by
  show (Tryd.prog.info? 26).map (·.size) = some 36
  kernel_rfl
theorem cur_whole {w : World} {g : Nat} {c : Cur} {ty : TypeId} (h : Blk w g c.cells ty) : w.rangeAt g 0 c.cells := fun j v hj => by rw [Nat.zero_add]; exact h.cell hj
theorem wpList_load_mid_want {P : Program} {ops : Array Oper} {rest : List Oper} {op : Oper} {a : Act} {w : World} {Q : Exit → Act → World → Prop} (hw : Region.wanted op (yielded ops a.tmps) = true) (ty : TypeId) (x : Operand) (ho : op.op = .load ty x)
    (b o : Nat) (hx : a.eval x = .pointer (some ⟨b, o, none⟩)) (cs : List Value) (d : TypeDesc) (hc : w.rangeAt b o cs)
    (hu : P.underlying ty = some d) (hd : d.isRow = true) (hi : (P.info? ty).map (·.size) = some cs.length)
    (h : wpList P ops Q rest (a.put op.dst (.agg cs.toArray)) w) : wpList P ops Q (op :: rest) a w :=
  BigFrame.wpList_want hw fun _ hK => wp_load_mid ty x ho b o hx cs d hc hu hd hi (hK _ _ h)
def setsL : List Value → Nat → List Value → List Value
  | l, _, [] => l
  | l, o, v :: r => setsL (l.set o v) (o + 1) r
theorem blk_sets {g : Nat} {T : TypeId} : ∀ (vs : List Value) (o : Nat) (l : List Value) (w : World), Blk w g l T → Blk (w.setCells g o vs) g (setsL l o vs) T
  | [], o, l, w, h => h
  | v :: r, o, l, w, h => blk_sets r (o + 1) (l.set o v) _ (h.set_ o v)
theorem cur_sets (b : Cur) (K : Nat → Int) : setsL b.cells 0 (idCells K) = ({ b with seq := K } : Cur).cells := rfl
theorem stored {w : World} {g : Nat} {T : TypeId} {b : Cur} (K : Nat → Int) (h : Blk w g b.cells T) : Blk (w.setCells g 0 (idCells K)) g ({ b with seq := K } : Cur).cells T := by
  have := blk_sets (idCells K) 0 b.cells w h
  rwa [cur_sets] at this
theorem set_34 (b : Cur) (r : Int) : b.cells.set 34 (.int .u64 r) = ({ b with real := r } : Cur).cells := rfl
theorem stored34 {w : World} {g : Nat} {T : TypeId} {b : Cur} (r : Int) (h : Blk w g b.cells T) : Blk (w.setCell ⟨g, 34, none⟩ (.int .u64 r)) g ({ b with real := r } : Cur).cells T := by
  have := h.set_ 34 (.int .u64 r)
  rwa [set_34] at this
theorem far_sets {g k : Nat} {T : TypeId} {l : List Value} (hk : k ≠ g) : ∀ (vs : List Value) (o : Nat) (w : World), Blk w k l T → Blk (w.setCells g o vs) k l T
  | [], o, w, h => h
  | v :: r, o, w, h => far_sets hk r (o + 1) _ (h.far (p := ⟨g, o, none⟩) hk v)
theorem below_sets {B g : Nat} (hg : B ≤ g) {a : World} : ∀ (vs : List Value) (o : Nat) (w : World), Below B a w → Below B a (w.setCells g o vs)
  | [], o, w, h => h
  | v :: r, o, w, h => below_sets hg r (o + 1) _ (h.setCell (p := (⟨g, o, none⟩ : Addr)) hg v)
theorem there_of {w : World} {g : Nat} {l : List Value} {T : TypeId} (h : Blk w g l T) (o n : Nat) (hn : o + n ≤ l.length) : w.there g o n := fun j hj => ⟨by rw [h.cell (i := o + j) (List.getElem?_eq_getElem (by omega))]; rfl, h.frozen _⟩

theorem at_store (x y : Operand) {P : Program} {ops : Array Oper} {Q : Exit → Act → World → Prop} {rest : List Oper} {a : Act} {w : World} {ty t2 : TypeId} {pos : String} {af : Array Edge} {gd : Option (Nat × Bool)}
    (h : wpList P ops Q (⟨none, .store t2 x y, ty, pos, af, gd⟩ :: rest) a w) : wpList P ops Q (⟨none, .store t2 x y, ty, pos, af, gd⟩ :: rest) a w := h
def neqS (a b : Value) : Sem Value := binOp .neq 23 a b
theorem neq_fold (a b : Value) : binOp .neq 23 a b = neqS a b := rfl
theorem neq_ids (K M : Nat → Int) (hK : IdOk K) (hM : IdOk M) (w : World) : (neqS (.agg (idCells K).toArray) (.agg (idCells M).toArray)).run Tryd.prog w = .ok (.bool (!decide (idL K = idL M))) w := by
  obtain ⟨r, hr, hiff⟩ := run_equalIn_deep (P := Tryd.prog) 9998 2 23 (by kernel_rfl) w 2 2 (.agg (idCells K).toArray) (.agg (idCells M).toArray) ((idL K).map (Lit.int .u8)) ((idL M).map (Lit.int .u8)) (by kernel_rfl) (by kernel_rfl) (id_lits K hK) (id_lits M hM)
  rw [lits_eq] at hiff
  unfold neqS
  rw [run_neq_struct, show (10000 : Nat) = 9998 + 2 from rfl, hr]
  have h : r = decide (idL K = idL M) := by
    by_cases he : idL K = idL M
    · rw [hiff.2 he]; simp [he]
    · have h1 : r ≠ true := fun h => he (hiff.1 h)
      cases r with
      | true => exact absurd rfl h1
      | false => simp [he]
  rw [h]
  rfl
theorem wpList_bin {P : Program} {ops : Array Oper} {rest : List Oper} {op : Oper} {a : Act} {w : World} {Q : Exit → Act → World → Prop} (hgd : op.guard = none) (b : BinOp) (t s : TypeId) (x y : Operand) (ho : op.op = .binOp b t x y s) (u z v : Value) (hx : a.eval x = u) (hy : a.eval y = z) (hg : (eqGuard b t x y u z).run P w = .ok () w) (hr : (binOp b t u z).run P w = .ok v w)
    (h : wpList P ops Q rest (a.put op.dst v) w) : wpList P ops Q (op :: rest) a w :=
  wpList_plain hgd fun _ hK => by
    unfold Oper.wp execOp
    simp only [ho, hx, hy, Sem.run_bind, Sem.run_pure, Result.andThen_ok, hg, hr]
    exact hK _ _ h
theorem ids_cells (K : Nat → Int) : ∀ v ∈ idCells K, v.oneCell' = true := fun v hv => by
  unfold idCells at hv
  simp at hv
  rcases hv with rfl | rfl | rfl | rfl | rfl | rfl | rfl | rfl | rfl | rfl | rfl | rfl | rfl | rfl | rfl | rfl <;> rfl

set_option maxHeartbeats 8000000 in
theorem walk (a b0 : Cur) (n : Int) (w : World) (ha : a.Ok) (hb0 : b0.Ok) (hn : (Lit.int .i64 n).wf = true) (hT : Tab w) :
    Calls Tryd.prog 5 #[a.v, b0.v, .int .i64 n] w fun e w' => e = .returned (.bool true) ∧ Below w.heap.size w w' := by
  obtain ⟨j, HJ, hj⟩ := below_nat n 2 (by decide)
  have hj2 : j = 0 ∨ j = 1 := by omega
  have HN := Lib.hid fun W => number_nat n 2 j W (by decide) (by decide) HJ
  have B0 := Lib.hid (((Below.refl w.heap.size w).alloc (Nat.le_refl _) (.cells a.cells.toArray 26)).alloc (by simp) (.cells b0.cells.toArray 26))
  have R1 := Lib.hid ((Blk.new w a.cells 26).alloc (.cells b0.cells.toArray 26))
  have R2 := Lib.hid (Blk.new_at (w.alloc (.cells a.cells.toArray 26)) b0.cells 26 (w.heap.size + 1) (by simp))
  have HT := Lib.hid hT
  clear hn hT HJ hj
  go_enter Tryd.func5, Tryd.ntmps5
  go_upto_region 1 with fail
  dsimp only [Cur.cells] at B0 R1 R2
  change Hid (Below _ _ ((w.alloc (.cells #[.int .u8 (a.seq 0), .int .u8 (a.seq 1), .int .u8 (a.seq 2), .int .u8 (a.seq 3), .int .u8 (a.seq 4), .int .u8 (a.seq 5), .int .u8 (a.seq 6), .int .u8 (a.seq 7), .int .u8 (a.seq 8), .int .u8 (a.seq 9), .int .u8 (a.seq 10), .int .u8 (a.seq 11), .int .u8 (a.seq 12), .int .u8 (a.seq 13), .int .u8 (a.seq 14), .int .u8 (a.seq 15), .int .u64 a.n, .int .u8 (a.boot 0), .int .u8 (a.boot 1), .int .u8 (a.boot 2), .int .u8 (a.boot 3), .int .u8 (a.boot 4), .int .u8 (a.boot 5), .int .u8 (a.boot 6), .int .u8 (a.boot 7), .int .u8 (a.boot 8), .int .u8 (a.boot 9), .int .u8 (a.boot 10), .int .u8 (a.boot 11), .int .u8 (a.boot 12), .int .u8 (a.boot 13), .int .u8 (a.boot 14), .int .u8 (a.boot 15), .int .u64 a.mono, .int .u64 a.real, .int .u64 a.xor] 26)).alloc (.cells #[.int .u8 (b0.seq 0), .int .u8 (b0.seq 1), .int .u8 (b0.seq 2), .int .u8 (b0.seq 3), .int .u8 (b0.seq 4), .int .u8 (b0.seq 5), .int .u8 (b0.seq 6), .int .u8 (b0.seq 7), .int .u8 (b0.seq 8), .int .u8 (b0.seq 9), .int .u8 (b0.seq 10), .int .u8 (b0.seq 11), .int .u8 (b0.seq 12), .int .u8 (b0.seq 13), .int .u8 (b0.seq 14), .int .u8 (b0.seq 15), .int .u64 b0.n, .int .u8 (b0.boot 0), .int .u8 (b0.boot 1), .int .u8 (b0.boot 2), .int .u8 (b0.boot 3), .int .u8 (b0.boot 4), .int .u8 (b0.boot 5), .int .u8 (b0.boot 6), .int .u8 (b0.boot 7), .int .u8 (b0.boot 8), .int .u8 (b0.boot 9), .int .u8 (b0.boot 10), .int .u8 (b0.boot 11), .int .u8 (b0.boot 12), .int .u8 (b0.boot 13), .int .u8 (b0.boot 14), .int .u8 (b0.boot 15), .int .u64 b0.mono, .int .u64 b0.real, .int .u64 b0.xor] 26))) at B0
  change Hid (Blk ((w.alloc (.cells #[.int .u8 (a.seq 0), .int .u8 (a.seq 1), .int .u8 (a.seq 2), .int .u8 (a.seq 3), .int .u8 (a.seq 4), .int .u8 (a.seq 5), .int .u8 (a.seq 6), .int .u8 (a.seq 7), .int .u8 (a.seq 8), .int .u8 (a.seq 9), .int .u8 (a.seq 10), .int .u8 (a.seq 11), .int .u8 (a.seq 12), .int .u8 (a.seq 13), .int .u8 (a.seq 14), .int .u8 (a.seq 15), .int .u64 a.n, .int .u8 (a.boot 0), .int .u8 (a.boot 1), .int .u8 (a.boot 2), .int .u8 (a.boot 3), .int .u8 (a.boot 4), .int .u8 (a.boot 5), .int .u8 (a.boot 6), .int .u8 (a.boot 7), .int .u8 (a.boot 8), .int .u8 (a.boot 9), .int .u8 (a.boot 10), .int .u8 (a.boot 11), .int .u8 (a.boot 12), .int .u8 (a.boot 13), .int .u8 (a.boot 14), .int .u8 (a.boot 15), .int .u64 a.mono, .int .u64 a.real, .int .u64 a.xor] 26)).alloc (.cells #[.int .u8 (b0.seq 0), .int .u8 (b0.seq 1), .int .u8 (b0.seq 2), .int .u8 (b0.seq 3), .int .u8 (b0.seq 4), .int .u8 (b0.seq 5), .int .u8 (b0.seq 6), .int .u8 (b0.seq 7), .int .u8 (b0.seq 8), .int .u8 (b0.seq 9), .int .u8 (b0.seq 10), .int .u8 (b0.seq 11), .int .u8 (b0.seq 12), .int .u8 (b0.seq 13), .int .u8 (b0.seq 14), .int .u8 (b0.seq 15), .int .u64 b0.n, .int .u8 (b0.boot 0), .int .u8 (b0.boot 1), .int .u8 (b0.boot 2), .int .u8 (b0.boot 3), .int .u8 (b0.boot 4), .int .u8 (b0.boot 5), .int .u8 (b0.boot 6), .int .u8 (b0.boot 7), .int .u8 (b0.boot 8), .int .u8 (b0.boot 9), .int .u8 (b0.boot 10), .int .u8 (b0.boot 11), .int .u8 (b0.boot 12), .int .u8 (b0.boot 13), .int .u8 (b0.boot 14), .int .u8 (b0.boot 15), .int .u64 b0.mono, .int .u64 b0.real, .int .u64 b0.xor] 26)) _ _ _) at R1
  change Hid (Blk ((w.alloc (.cells #[.int .u8 (a.seq 0), .int .u8 (a.seq 1), .int .u8 (a.seq 2), .int .u8 (a.seq 3), .int .u8 (a.seq 4), .int .u8 (a.seq 5), .int .u8 (a.seq 6), .int .u8 (a.seq 7), .int .u8 (a.seq 8), .int .u8 (a.seq 9), .int .u8 (a.seq 10), .int .u8 (a.seq 11), .int .u8 (a.seq 12), .int .u8 (a.seq 13), .int .u8 (a.seq 14), .int .u8 (a.seq 15), .int .u64 a.n, .int .u8 (a.boot 0), .int .u8 (a.boot 1), .int .u8 (a.boot 2), .int .u8 (a.boot 3), .int .u8 (a.boot 4), .int .u8 (a.boot 5), .int .u8 (a.boot 6), .int .u8 (a.boot 7), .int .u8 (a.boot 8), .int .u8 (a.boot 9), .int .u8 (a.boot 10), .int .u8 (a.boot 11), .int .u8 (a.boot 12), .int .u8 (a.boot 13), .int .u8 (a.boot 14), .int .u8 (a.boot 15), .int .u64 a.mono, .int .u64 a.real, .int .u64 a.xor] 26)).alloc (.cells #[.int .u8 (b0.seq 0), .int .u8 (b0.seq 1), .int .u8 (b0.seq 2), .int .u8 (b0.seq 3), .int .u8 (b0.seq 4), .int .u8 (b0.seq 5), .int .u8 (b0.seq 6), .int .u8 (b0.seq 7), .int .u8 (b0.seq 8), .int .u8 (b0.seq 9), .int .u8 (b0.seq 10), .int .u8 (b0.seq 11), .int .u8 (b0.seq 12), .int .u8 (b0.seq 13), .int .u8 (b0.seq 14), .int .u8 (b0.seq 15), .int .u64 b0.n, .int .u8 (b0.boot 0), .int .u8 (b0.boot 1), .int .u8 (b0.boot 2), .int .u8 (b0.boot 3), .int .u8 (b0.boot 4), .int .u8 (b0.boot 5), .int .u8 (b0.boot 6), .int .u8 (b0.boot 7), .int .u8 (b0.boot 8), .int .u8 (b0.boot 9), .int .u8 (b0.boot 10), .int .u8 (b0.boot 11), .int .u8 (b0.boot 12), .int .u8 (b0.boot 13), .int .u8 (b0.boot 14), .int .u8 (b0.boot 15), .int .u64 b0.mono, .int .u64 b0.real, .int .u64 b0.xor] 26)) _ _ _) at R2
  generalize (w.alloc (.cells #[.int .u8 (a.seq 0), .int .u8 (a.seq 1), .int .u8 (a.seq 2), .int .u8 (a.seq 3), .int .u8 (a.seq 4), .int .u8 (a.seq 5), .int .u8 (a.seq 6), .int .u8 (a.seq 7), .int .u8 (a.seq 8), .int .u8 (a.seq 9), .int .u8 (a.seq 10), .int .u8 (a.seq 11), .int .u8 (a.seq 12), .int .u8 (a.seq 13), .int .u8 (a.seq 14), .int .u8 (a.seq 15), .int .u64 a.n, .int .u8 (a.boot 0), .int .u8 (a.boot 1), .int .u8 (a.boot 2), .int .u8 (a.boot 3), .int .u8 (a.boot 4), .int .u8 (a.boot 5), .int .u8 (a.boot 6), .int .u8 (a.boot 7), .int .u8 (a.boot 8), .int .u8 (a.boot 9), .int .u8 (a.boot 10), .int .u8 (a.boot 11), .int .u8 (a.boot 12), .int .u8 (a.boot 13), .int .u8 (a.boot 14), .int .u8 (a.boot 15), .int .u64 a.mono, .int .u64 a.real, .int .u64 a.xor] 26)).alloc (.cells #[.int .u8 (b0.seq 0), .int .u8 (b0.seq 1), .int .u8 (b0.seq 2), .int .u8 (b0.seq 3), .int .u8 (b0.seq 4), .int .u8 (b0.seq 5), .int .u8 (b0.seq 6), .int .u8 (b0.seq 7), .int .u8 (b0.seq 8), .int .u8 (b0.seq 9), .int .u8 (b0.seq 10), .int .u8 (b0.seq 11), .int .u8 (b0.seq 12), .int .u8 (b0.seq 13), .int .u8 (b0.seq 14), .int .u8 (b0.seq 15), .int .u64 b0.n, .int .u8 (b0.boot 0), .int .u8 (b0.boot 1), .int .u8 (b0.boot 2), .int .u8 (b0.boot 3), .int .u8 (b0.boot 4), .int .u8 (b0.boot 5), .int .u8 (b0.boot 6), .int .u8 (b0.boot 7), .int .u8 (b0.boot 8), .int .u8 (b0.boot 9), .int .u8 (b0.boot 10), .int .u8 (b0.boot 11), .int .u8 (b0.boot 12), .int .u8 (b0.boot 13), .int .u8 (b0.boot 14), .int .u8 (b0.boot 15), .int .u64 b0.mono, .int .u64 b0.real, .int .u64 b0.xor] 26) = w1 at *
  have HF := Lib.hid (first_any w1 (HT.out.below B0.out))
  have HZ := Lib.hid B0.out.size
  generalize hg : w.heap.size = g at *
  have HG := Lib.hid hg
  clear hg
  go_wp2_with (go_at_call 6; (with_reducible refine HF.out.mono ?_); rintro e w2 ⟨rfl, hb2⟩; have Q1 := Lib.hid (show Blk w2 g a.cells 26 from R1.out.below hb2 R1.out.lt); have Q2 := Lib.hid (show Blk w2 (g + 1) b0.cells 26 from R2.out.below hb2 R2.out.lt); have QB := Lib.hid (B0.out.trans (hb2.mono HZ.out)); clear hb2)
  clear R1 R2 B0 HF HT
  go_loopw [8, 9, 10] (fun vi _ _ wr => ∃ (k : Nat) (b : Cur), k ≤ 3 ∧ vi = .int .i64 (k : Int) ∧ b.Ok ∧ Hid (Blk wr g a.cells 26) ∧ Hid (Blk wr (g + 1) b.cells 26) ∧ Hid (Below g w wr)) (fun i _ _ _ => 3 - (intOf i).toNat)
  case atStart => exact ⟨0, b0, by omega, rfl, hb0, Q1, Q2, QB⟩
  case round =>
    obtain ⟨k, b, hk, rfl, hb, P1, P2, PB⟩ := hrel
    clear Q1 Q2 QB
    by_cases hlt : k < 3
    · have hki : (k : Int) < 3 := by omega
      have HXY := Lib.hid fun W => compare_any a b ha hb W
      have HYX := Lib.hid fun W => compare_any b a hb ha W
      have HXX := Lib.hid fun W => compare_any a a ha ha W
      rw [cmpC_self] at HXX
      rw [cmpC_neg a b] at HYX
      obtain ⟨x0, x1⟩ := cmpC_bd a b
      have HS1 : Hid (idL a.seq = idL b.seq → (cmpC a b < 0 ↔ a.n < b.n)) := Lib.hid fun h => by unfold cmpC; rw [if_pos h]; exact ordI_lt _ _
      have HS2 : Hid (idL a.seq ≠ idL b.seq → a.real ≠ b.real → (cmpC a b < 0 ↔ a.real < b.real)) := Lib.hid fun h h2 => by
        unfold cmpC orI
        rw [if_neg h, if_neg (fun e => h2 ((ordI_zero _ _).1 e))]
        exact ordI_lt _ _
      generalize cmpC a b = x at *
      have HR := Lib.hid fun (W : World) (h : Below wr.heap.size wr W) => (⟨cur_whole (P1.out.below h P1.out.lt), cur_whole (P2.out.below h P2.out.lt)⟩ : W.rangeAt g 0 a.cells ∧ W.rangeAt (g + 1) 0 b.cells)
      have D0 := Lib.hid ((Below.refl wr.heap.size wr).drew)
      go_upto_region 7 with fail
      refine wp_region_noPanic ?_
      refine wp_region_held_drew (S := fun W : World => W.rangeAt g 0 a.cells ∧ W.rangeAt (g + 1) 0 b.cells) (by kernel_rfl) (by exact (HR.out _ D0.out)) (fun hHeld => ?_)
      refine wpAnyH_take (i := 0) (oi := ⟨some 18, _, _, _, _, _⟩) rfl (by kernel_rfl) (by kernel_rfl) (by kernel_rfl) (fun _ _ _ h => h) (yieldsIf_load_mid (by rfl) _ _ rfl _ _ rfl _ _ (fun _ h => h.1) Tryd.underlying26 rfl cur_info) (by assumption) ?_
      try simp only [Act.put, List.setIfInBounds_toArray, List.set_cons_zero, List.set_cons_succ]
      refine wpAnyH_take (i := 1) (oi := ⟨some 19, _, _, _, _, _⟩) rfl (by kernel_rfl) (by kernel_rfl) (by kernel_rfl) (fun _ _ _ h => h) (yieldsIf_load_mid (by rfl) _ _ rfl _ _ rfl _ _ (fun _ h => h.2) Tryd.underlying26 rfl cur_info) (by assumption) ?_
      try simp only [Act.put, List.setIfInBounds_toArray, List.set_cons_zero, List.set_cons_succ]
      refine wpAnyH_take (i := 3) (oi := ⟨some 21, _, _, _, _, _⟩) rfl (by kernel_rfl) (by kernel_rfl) (by kernel_rfl) (fun _ _ _ h => h) (yieldsIf_load_mid (by rfl) _ _ rfl _ _ rfl _ _ (fun _ h => h.2) Tryd.underlying26 rfl cur_info) (by assumption) ?_
      try simp only [Act.put, List.setIfInBounds_toArray, List.set_cons_zero, List.set_cons_succ]
      refine wpAnyH_take (i := 4) (oi := ⟨some 22, _, _, _, _, _⟩) rfl (by kernel_rfl) (by kernel_rfl) (by kernel_rfl) (fun _ _ _ h => h) (yieldsIf_load_mid (by rfl) _ _ rfl _ _ rfl _ _ (fun _ h => h.1) Tryd.underlying26 rfl cur_info) (by assumption) ?_
      try simp only [Act.put, List.setIfInBounds_toArray, List.set_cons_zero, List.set_cons_succ]
      refine wpAnyH_ready (rs := [2]) (by kernel_rfl) (by simp) ?_
      refine AllReadyH.cons (o := ⟨some 20, _, _, _, _, _⟩) rfl (fun K hK => ?_) AllReadyH.nil
      go_simp
      ((with_reducible refine (HXY.out _).mono ?_); rintro e w1 ⟨rfl, hb1⟩; have D1 := Lib.hid (D0.out.trans (hb1.mono D0.out.size)); clear hb1)
      try go_wp2_with fail
      refine hK.out _ _ (by exact (HR.out _ D1.out)) (fun hHeld => ?_)
      clear hK K
      try simp only [Act.put, List.setIfInBounds_toArray, List.set_cons_zero, List.set_cons_succ]
      refine wpAnyH_ready (rs := [5]) (by kernel_rfl) (by simp) ?_
      refine AllReadyH.cons (o := ⟨some 23, _, _, _, _, _⟩) rfl (fun K hK => ?_) AllReadyH.nil
      go_simp
      ((with_reducible refine (HYX.out _).mono ?_); rintro e w2 ⟨rfl, hb2⟩; have D2 := Lib.hid (D1.out.trans (hb2.mono D1.out.size)); clear hb2)
      try go_wp2_with fail
      refine hK.out _ _ (by exact (HR.out _ D2.out)) (fun hHeld => ?_)
      clear hK K
      try simp only [Act.put, List.setIfInBounds_toArray, List.set_cons_zero, List.set_cons_succ]
      refine wpAnyH_take (i := 6) (oi := ⟨some 9, _, _, _, _, _⟩) (v := ?_) rfl (by kernel_rfl) (by kernel_rfl) (by kernel_rfl) (fun _ _ _ h => h) (Or.inl ⟨by rfl, ?_⟩) (by assumption) ?_
      rotate_left
      · intro W hSw; go_simp; try (with_reducible rfl)
      try simp only [Act.put, List.setIfInBounds_toArray, List.set_cons_zero, List.set_cons_succ]
      refine wpAnyH_take (i := 7) (oi := ⟨some 10, _, _, _, _, _⟩) (v := ?_) rfl (by kernel_rfl) (by kernel_rfl) (by kernel_rfl) (fun _ _ _ h => h) (Or.inl ⟨by rfl, ?_⟩) (by assumption) ?_
      rotate_left
      · intro W hSw; go_simp; try (with_reducible rfl)
      try simp only [Act.put, List.setIfInBounds_toArray, List.set_cons_zero, List.set_cons_succ]
      refine wpAnyH_done (by kernel_rfl) ?_ _
      refine NoPanic.normal ?_
      have V1 := Lib.hid (P1.out.below D2.out P1.out.lt)
      have V2 := Lib.hid (P2.out.below D2.out P2.out.lt)
      have VB := Lib.hid (PB.out.trans (D2.out.mono (HG.out ▸ PB.out.size)))
      clear HXY HYX HR D0 D1 D2 P1 P2 PB
      have hw : IntKind.i64.wrap x = x := by rcases (show x = -1 ∨ x = 0 ∨ x = 1 by omega) with rfl | rfl | rfl <;> decide
      have hB : ¬ x < -1 := by omega
      have hC : ¬ 1 < x := by omega
      have heq := fun W => eql_ids a.seq b.seq ha.seq hb.seq W
      have hne := fun W => neq_ids a.seq b.seq ha.seq hb.seq W
      have HZd : Hid (decide (idL a.seq = idL b.seq) = true ∧ (!decide (idL a.seq = idL b.seq)) = false ∧ (x < 0 ∧ a.n < b.n ∨ ¬ x < 0 ∧ ¬ a.n < b.n) ∨ decide (idL a.seq = idL b.seq) = false ∧ (!decide (idL a.seq = idL b.seq)) = true ∧ ((a.real != b.real) = false ∨ (a.real != b.real) = true ∧ (x < 0 ∧ a.real < b.real ∨ ¬ x < 0 ∧ ¬ a.real < b.real))) := Lib.hid (by
        by_cases h : idL a.seq = idL b.seq
        · exact .inl ⟨decide_eq_true h, by simp [h], by have := HS1.out h; by_cases hx : x < 0 <;> simp_all⟩
        · refine .inr ⟨decide_eq_false h, by simp [h], ?_⟩
          by_cases h2 : a.real = b.real
          · exact .inl (by simp [h2])
          · exact .inr ⟨by simp [h2], by have := HS2.out h h2; by_cases hx : x < 0 <;> simp_all⟩)
      generalize hz2 : (!decide (idL a.seq = idL b.seq)) = z2 at hne HZd
      generalize hz : decide (idL a.seq = idL b.seq) = z at heq HZd
      clear hz hz2 x0 x1 HS1 HS2
      go_upto_region 10 with (first
        | ((with_reducible apply at_slot 37); refine wpList_load_mid_want rfl 26 (.tmp 3) rfl g 0 rfl a.cells _ (cur_whole V1.out) Tryd.underlying26 rfl cur_info ?_)
        | ((with_reducible apply at_slot 38); refine wpList_load_mid_want rfl 26 (.tmp 3) rfl g 0 rfl a.cells _ (cur_whole V1.out) Tryd.underlying26 rfl cur_info ?_)
        | (go_at_call 18; (with_reducible refine (HXX.out _).mono ?_); rintro e w3 ⟨rfl, hb3⟩; have Z1 := Lib.hid (V1.out.below hb3 V1.out.lt); have Z2 := Lib.hid (V2.out.below hb3 V2.out.lt); have ZB := Lib.hid (VB.out.trans (hb3.mono (HG.out ▸ VB.out.size))); clear hb3)
        | fail)
      clear V1 V2 VB HXX hw hB hC
      have c1 : w3.cell? ⟨g, 16, none⟩ = some (.int .u64 a.n) := Z1.out.cell rfl
      have c2 : w3.cell? ⟨g + 1, 16, none⟩ = some (.int .u64 b.n) := Z2.out.cell rfl
      have c3 : w3.cell? ⟨g, 34, none⟩ = some (.int .u64 a.real) := Z1.out.cell rfl
      have c4 : w3.cell? ⟨g + 1, 34, none⟩ = some (.int .u64 b.real) := Z2.out.cell rfl
      have f4 := Z2.out.frozen 34
      have N1 := Lib.hid (show Blk (w3.setCells (g + 1) 0 (idCells a.seq)) (g + 1) ({ b with seq := a.seq } : Cur).cells 26 from stored a.seq Z2.out)
      have N2 := Lib.hid (show Blk (w3.setCells (g + 1) 0 (idCells a.seq)) g a.cells 26 from far_sets (by omega) _ _ _ Z1.out)
      have N3 := Lib.hid (show Below g w (w3.setCells (g + 1) 0 (idCells a.seq)) from below_sets (by omega) _ _ _ (HG.out ▸ ZB.out))
      have M1 := Lib.hid (show Blk (w3.setCell ⟨g + 1, 34, none⟩ (.int .u64 a.real)) (g + 1) ({ b with real := a.real } : Cur).cells 26 from stored34 a.real Z2.out)
      have M2 := Lib.hid (show Blk (w3.setCell ⟨g + 1, 34, none⟩ (.int .u64 a.real)) g a.cells 26 from Z1.out.far (p := ⟨g + 1, 34, none⟩) (show g ≠ g + 1 by omega) _)
      have M3 := Lib.hid (show Below g w (w3.setCell ⟨g + 1, 34, none⟩ (.int .u64 a.real)) from Below.setCell (HG.out ▸ ZB.out) (p := (⟨g + 1, 34, none⟩ : Addr)) (by show g ≤ g + 1; omega) _)
      have E1 := Lib.hid (show ({ b with seq := a.seq } : Cur).Ok from ⟨ha.seq, hb.n, hb.boot, hb.mono, hb.real, hb.xor⟩)
      have E2 := Lib.hid (show ({ b with real := a.real } : Cur).Ok from ⟨hb.seq, hb.n, hb.boot, hb.mono, ha.real, hb.xor⟩)
      go_cut [56] from 14 to 87 (fun c wx => c = .bool false ∧ wx = w3)
      case first =>
        clear hne N1 N2 N3 M1 M2 M3 E1 E2 c3 c4 f4
        rcases HZd.out with ⟨rfl, -, ⟨hx, hy⟩ | ⟨hx, hy⟩⟩ | ⟨rfl, -, -⟩
        all_goals
          clear HZd
          go_wp2_with (first | ((with_reducible apply at_slot 43); refine wpList_load_mid rfl 23 (.tmp 42) rfl g 0 rfl (idCells a.seq) _ (cur_seq Z1.out) Tryd.underlying23 rfl idc_info ?_) | ((with_reducible apply at_slot 45); refine wpList_load_mid rfl 23 (.tmp 44) rfl (g + 1) 0 rfl (idCells b.seq) _ (cur_seq Z2.out) Tryd.underlying23 rfl idc_info ?_) | fail)
          go_meet
          exact ⟨by first | rfl | (simp [hx, hy]; done) | (simp; omega), rfl⟩
      case rest =>
        obtain ⟨rfl, rfl⟩ := hcut
        clear heq c1 c2
        go_upto_region 12 with fail
        go_cut [78] from 14 to 87 (fun c wx => c = .bool false ∧ wx = wc)
        case first =>
          clear N1 N2 N3 M1 M2 M3 E1 E2 f4
          rcases HZd.out with ⟨-, rfl, -⟩ | ⟨-, rfl, hr | ⟨hr, ⟨hx, hy⟩ | ⟨hx, hy⟩⟩⟩
          all_goals
            clear HZd
            go_wp2_with (first | ((with_reducible apply at_slot 58); refine wpList_load_mid rfl 23 (.tmp 57) rfl g 0 rfl (idCells a.seq) _ (cur_seq Z1.out) Tryd.underlying23 rfl idc_info ?_) | ((with_reducible apply at_slot 60); refine wpList_load_mid rfl 23 (.tmp 59) rfl (g + 1) 0 rfl (idCells b.seq) _ (cur_seq Z2.out) Tryd.underlying23 rfl idc_info ?_) | ((with_reducible apply at_slot 61); refine wpList_bin rfl .neq 23 23 (.tmp 58) (.tmp 60) rfl _ _ _ rfl rfl (by kernel_rfl) (hne _) ?_) | fail)
            go_meet
            exact ⟨by first | rfl | (simp [hx, hy]; done) | (simp; omega), rfl⟩
        case rest =>
          obtain ⟨rfl, rfl⟩ := hcut
          clear hne HZd
          rcases hj2 with rfl | rfl
          · go_wp2_with (first | (go_at_call 24; (with_reducible refine (HN.out _).mono ?_); rintro e w' ⟨rfl, rfl⟩) | ((with_reducible apply at_slot 83); refine wpList_load_mid rfl 23 (.tmp 82) rfl g 0 rfl (idCells a.seq) _ (cur_seq Z1.out) Tryd.underlying23 rfl idc_info ?_) | ((with_reducible apply at_store (.tmp 84) (.tmp 83)); refine wpList_store_mid rfl 23 (.tmp 84) (.tmp 83) rfl (g + 1) 0 (idCells a.seq).toArray rfl rfl (there_of Z2.out 0 16 (show 0 + 16 ≤ 36 by decide)) idc_info (all_oneCell_toArray (ids_cells _)) ?_) | fail)
            go_roundw
            case rel => exact ⟨k + 1, { b with seq := a.seq }, by omega, by go_num, E1.out, N2, N1, N3⟩
            case measure => simp [intOf]; omega
          · go_wp2_with (first | (go_at_call 24; (with_reducible refine (HN.out _).mono ?_); rintro e w' ⟨rfl, rfl⟩) | ((with_reducible apply at_slot 83); refine wpList_load_mid rfl 23 (.tmp 82) rfl g 0 rfl (idCells a.seq) _ (cur_seq Z1.out) Tryd.underlying23 rfl idc_info ?_) | ((with_reducible apply at_store (.tmp 84) (.tmp 83)); refine wpList_store_mid rfl 23 (.tmp 84) (.tmp 83) rfl (g + 1) 0 (idCells a.seq).toArray rfl rfl (there_of Z2.out 0 16 (show 0 + 16 ≤ 36 by decide)) idc_info (all_oneCell_toArray (ids_cells _)) ?_) | fail)
            go_roundw
            case rel => exact ⟨k + 1, { b with real := a.real }, by omega, by go_num, E2.out, M2, M1, M3⟩
            case measure => simp [intOf]; omega
    · have hge : ¬ (k : Int) < 3 := by omega
      go_wp2
      go_ret
      exact ⟨rfl, HG.out ▸ PB.out⟩
end Go.Proofs.YtpfkhcgeblihcaaDoor.CursorOrderW
