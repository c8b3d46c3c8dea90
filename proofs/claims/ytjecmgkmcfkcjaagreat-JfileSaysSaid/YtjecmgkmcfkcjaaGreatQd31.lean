/-
  Texts beneath the proof.
-/
import Derived.Test.YtjecmgkmcfkcjaaGreatQd25
import Derived.Test.YtjecmgkmcfkcjaaGreatQd30
set_option linter.unusedVariables false
set_option linter.unusedSimpArgs false
set_option maxRecDepth 100000
set_option maxHeartbeats 2000000
open Go.ChangeShapes Go.WideShapes Go.ChangeAt Go.RowKit
namespace Go.Proofs.YtjecmgkmcfkcjaaGreat
namespace Zg
end Zg
namespace Zj
end Zj
namespace Ra
open Bytes8 Blk8 OwnE Ga Gb Ma Mb Na Nt Nu
open Go1 (HTold)
theorem hcells_len (h:HD):(Tryz.prog.info? 78).map (·.size)=some (h.cells 21).length:=by rw[headInfo];simp[HD.len]
theorem whole {w:World}{g:Nat}{T:TypeId}{h:HD}{m:Nat}(hb:Blk w g (h.cells m) T):w.rangeAt g 0 (h.cells m):=fun j v hj=>by rw[Nat.zero_add];exact hb.cell hj
theorem cut_hu (A:Option Addr)(len cap hi:Nat)(h2:hi≤cap)(hh:hi≤1000000)(w:World):
 (Instr.slice 23 (.slice A len cap) none (some (.int .u64 (hi:Int))) none).run Tryz.prog w= .ok (.slice (cutA A cap 0) hi cap) w:=by
 have ht:Tryz.prog.underlying 23=some (.slice (Tryz.prog.elem 23)):=by rw[elem8];exact Tryz.underlying23
 rw[run_slice_h w 23 A len cap ht .u64 hi (by omega) (by omega),elem8,sizeof8]
 unfold sliced cutA
 by_cases hc:cap=0
 ·simp[hc]
 ·simp[hc]
def viewC (h:HD)(b:Value):List Value:=h.cells 21++ [b]
theorem view_built (h:HD)(b:Value)(A:Option Addr)(n c:Nat)(e:b= .slice A n c):Tryz.prog.built 123 [(0,.agg (h.cells 21).toArray),(1,b)]=some (viewC h b).toArray:=by subst e;kernel_rfl
def bldV (parts:Array (Nat×Value)):Sem Value:=Instr.build 123 parts
theorem bldV_fold (parts:Array (Nat×Value)):Instr.build 123 parts=bldV parts:=rfl
theorem build_view (h:HD)(A:Option Addr)(n c:Nat)(w:World):(bldV #[(0,.agg (h.cells 21).toArray),(1,.slice A n c)]).run Tryz.prog w= .ok (.agg (viewC h (.slice A n c)).toArray) w:=by
 unfold bldV
 exact run_build w _ _ _ (view_built h _ A n c rfl)
attribute [local irreducible] HD.cells wpList Code.wp
attribute [local go_sem ↓] bldV_fold
end Ra
namespace Lk
open Bytes8 Blk8 Own8 OwnE Rows2 Ga Gb Ma Mb Na Ra
attribute [local irreducible] HD.cells wpList Code.wp
theorem view_head {w:World}{gv:Nat}{h:HD}{b:Value}(hv:Blk w gv (viewC h b) 123):w.rangeAt gv 0 (h.cells 21):=fun j x hj=>by
 rw[Nat.zero_add]
 refine hv.cell ?_
 unfold viewC
 rw[List.getElem?_append_left (List.getElem?_eq_some_iff.1 hj).1]
 exact hj
theorem vhead_any {gv:Nat}{h:HD}{b:Value}(w:World)(hv:Blk w gv (viewC h b) 123):Calls Tryz.prog 36 #[.pointer (some ⟨gv,0,none⟩)] w fun e w'=>e= .returned (.agg (h.cells 21).toArray)∧Below w.heap.size w w':=by
 have b1:=Lib.hid ((Below.refl w.heap.size w).alloc (Nat.le_refl _) (.cells Tryz.zeroCells78 78))
 have HR:=Lib.hid (view_head (hv.below b1.out hv.lt))
 have Z:=Lib.hid (heap_alloc_new w (.cells Tryz.zeroCells78 78))
 clear hv
 go_enter Tryz.func36,Tryz.ntmps36
 go_wp2_with(first
  |((with_reducible apply at_slot 6);refine wpList_load_mid rfl 78 (.tmp 5) rfl gv 0 rfl (h.cells 21) _ HR.out Tryz.underlying78 rfl (hcells_len _) ?_)
  |((with_reducible apply at_store (.tmp 2) (.tmp 6));refine wpList_store_row rfl 78 (.tmp 2) (.tmp 6) rfl w.heap.size (h.cells 21).toArray rfl rfl 78 Tryz.zeroCells78 Z.out (cells_info _) zeros_size (HD.one _ 21) ?_)
  |fail)
 refine bodyPost_ret (v:= .agg (h.cells 21).toArray) (by exact results_cell_row Tryz.results36 _ _ w.heap.size 78 _ (0,0) _ rfl (setRow_heap _ w.heap.size _ _ _ (0,0) Z.out) Tryz.underlying78 rfl (cells_info _)) rfl ?_
 exact⟨rfl,below_setRow b1.out (Nat.le_refl _) _⟩
end Lk
end Go.Proofs.YtjecmgkmcfkcjaaGreat
