/-
  Texts beneath the proof.
-/
import Derived.Test.YtelmgldkgccecaaGreatQr30
import Derived.Test.YtelmgldkgccecaaGreatQr12
set_option linter.unusedVariables false
set_option linter.unusedSimpArgs false
set_option maxRecDepth 100000
set_option maxHeartbeats 4000000
open Go.ChangeShapes Go.WideShapes Go.ChangeAt Go.RowKit
namespace Go.Proofs.YtelmgldkgccecaaGreat
namespace Rf
open Re (res_row_cell load_code)
attribute [local irreducible] wpList Code.wp
end Rf
namespace Rg
open Re (res_row_cell load_code)
attribute [local irreducible] wpList Code.wp
end Rg
namespace Rh
open Blk8 Own8 OwnE Ga Gb Ok7 Rc
open Kf Ye Yg
open Re (res_row_cell load_code)
attribute [local irreducible] wpList Code.wp
theorem gote_no (cs:Array Value)(cd:Int)(h0:cd≠0)(w:World):Calls Tryz.prog 181 #[.agg cs,.int .i64 cd] w fun e w'=>e= .panicked [haltE cd]∧Below w.heap.size w w':=by
 have HN:=Lib.hid (need_no cd)
 have d0:(cd==0)=false:=by simpa using h0
 have b2:=Lib.hid (((Below.refl w.heap.size w).alloc (Nat.le_refl _) (.cells cs 132)).alloc (by simp) (zC 132))
 go_enter Tryz.func181,Tryz.ntmps181
 go_wp2_with(first
  |(go_at_call 117;(refine(HN.out _).mono ?_);rintro e w1 ⟨rfl,rfl⟩)
  |fail)
 exact⟨rfl,rfl,b2.out⟩
theorem gote_yes (cs:Array Value)(hs:cs.size=21)(h1:cs.all (·.oneCell')=true)(w:World):Calls Tryz.prog 181 #[.agg cs,.int .i64 0] w fun e' w'=>e'= .returned (.agg cs)∧Below w.heap.size w w':=by
 have HN:=Lib.hid (need_yes 0)
 have hinfo:(Tryz.prog.info? 132).map (·.size)=some cs.size:=by rw[entInfo,hs]
 have S1:(w.alloc (.cells cs 132)).heap.size=w.heap.size+1:=by simp only[World.alloc,Array.size_push]
 have Za:=Lib.hid (show((w.alloc (.cells cs 132)).alloc (zC 132)).heap[w.heap.size]? =some (.cells cs 132 (0,0))from(Below.heap_alloc _ _ w.heap.size (by rw[S1];omega)).trans (heap_alloc_new w (.cells cs 132)))
 have Zb:=Lib.hid (show((w.alloc (.cells cs 132)).alloc (zC 132)).heap[w.heap.size+1]? =some (.cells zL.toArray 132 (0,0))from heap_alloc2_new w _ _)
 have b2:=Lib.hid (((Below.refl w.heap.size w).alloc (Nat.le_refl _) (.cells cs 132)).alloc (by simp) (zC 132))
 have HI:=Lib.hid hinfo
 have H1:=Lib.hid h1
 have HS:=Lib.hid (show zL.toArray.size=cs.size from hs.symm)
 clear hinfo h1 hs
 go_enter Tryz.func181,Tryz.ntmps181
 go_wp2_with(first
  |(go_at_call 117;(refine(HN.out _).mono ?_);rintro e w1 ⟨rfl,rfl⟩)
  |(refine wpList_load_row rfl 132 (.tmp 2) rfl w.heap.size rfl 132 cs (0,0) _ Za.out Tryz.underlying132 rfl HI.out ?_)
  |((with_reducible apply at_store (.tmp 4) (.tmp 9));refine wpList_store_row rfl 132 (.tmp 4) (.tmp 9) rfl (w.heap.size+1) cs rfl rfl 132 zL.toArray Zb.out HI.out HS.out H1.out ?_)
  |fail)
 refine bodyPost_ret (v:= .agg cs) (by exact results_cell_row Tryz.results181 _ _ (w.heap.size+1) 132 _ (0,0) _ rfl (setRow_heap _ (w.heap.size+1) _ _ _ (0,0) Zb.out) Tryz.underlying132 rfl HI.out) rfl ?_
 exact⟨rfl,below_setRow b2.out (by omega) cs⟩
end Rh
end Go.Proofs.YtelmgldkgccecaaGreat
