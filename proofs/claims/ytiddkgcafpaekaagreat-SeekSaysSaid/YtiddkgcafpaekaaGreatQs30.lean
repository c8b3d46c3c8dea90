/-
  Texts beneath the proof.
-/
import Derived.WalkSmall
import Derived.Test.YtiddkgcafpaekaaGreatQs24
import Derived.Test.YtiddkgcafpaekaaGreatQs29
set_option linter.unusedVariables false
set_option linter.unusedSimpArgs false
set_option maxRecDepth 100000
set_option maxHeartbeats 2000000
open Go.ChangeShapes Go.WideShapes Go.ChangeAt Go.RowKit
namespace Go.Proofs.YtiddkgcafpaekaaGreat
namespace Zg
end Zg
namespace Zj
end Zj
namespace Ra
open Bytes8 Blk8 OwnE Ga Gb Ma Mb Na Nt Nu
open Go1 (HTold)
theorem hcells_len (h:HD):(Tryz.prog.info? 39).map (·.size)=some (h.cells 21).length:=by rw[headInfo];simp[HD.len]
theorem whole {w:World}{g:Nat}{T:TypeId}{h:HD}{m:Nat}(hb:Blk w g (h.cells m) T):w.rangeAt g 0 (h.cells m):=fun j v hj=>by rw[Nat.zero_add];exact hb.cell hj
theorem cut_hu (A:Option Addr)(len cap hi:Nat)(h2:hi≤cap)(hh:hi≤1000000)(w:World):
 (Instr.slice 24 (.slice A len cap) none (some (.int .u64 (hi:Int))) none).run Tryz.prog w= .ok (.slice (cutA A cap 0) hi cap) w:=by
 have ht:Tryz.prog.underlying 24=some (.slice (Tryz.prog.elem 24)):=by rw[elem8];exact Tryz.underlying24
 rw[run_slice_h w 24 A len cap ht .u64 hi (by omega) (by omega),elem8,sizeof8]
 unfold sliced cutA
 by_cases hc:cap=0
 ·simp[hc]
 ·simp[hc]
def viewC (h:HD)(b:Value):List Value:=h.cells 21++ [b]
theorem view_built (h:HD)(b:Value)(A:Option Addr)(n c:Nat)(e:b= .slice A n c):Tryz.prog.built 160 [(0,.agg (h.cells 21).toArray),(1,b)]=some (viewC h b).toArray:=by subst e;kernel_rfl
def bldV (parts:Array (Nat×Value)):Sem Value:=Instr.build 160 parts
theorem bldV_fold (parts:Array (Nat×Value)):Instr.build 160 parts=bldV parts:=rfl
theorem build_view (h:HD)(A:Option Addr)(n c:Nat)(w:World):(bldV #[(0,.agg (h.cells 21).toArray),(1,.slice A n c)]).run Tryz.prog w= .ok (.agg (viewC h (.slice A n c)).toArray) w:=by
 unfold bldV
 exact run_build w _ _ _ (view_built h _ A n c rfl)
attribute [local irreducible] HD.cells wpList Code.wp
attribute [local go_sem ↓] bldV_fold
end Ra
namespace Lk
open Bytes8 Blk8 Own8 OwnE Rows2 Ga Gb Ma Mb Na Ra
attribute [local irreducible] HD.cells wpList Code.wp
theorem view_head {w:World}{gv:Nat}{h:HD}{b:Value}(hv:Blk w gv (viewC h b) 160):w.rangeAt gv 0 (h.cells 21):=fun j x hj=>by
 rw[Nat.zero_add]
 refine hv.cell ?_
 unfold viewC
 rw[List.getElem?_append_left (List.getElem?_eq_some_iff.1 hj).1]
 exact hj
theorem vhead_any {gv:Nat}{h:HD}{b:Value}(w:World)(hv:Blk w gv (viewC h b) 160):Calls Tryz.prog 106 #[.pointer (some ⟨gv,0,none⟩)] w fun e w'=>e= .returned (.agg (h.cells 21).toArray)∧Below w.heap.size w w':=by
 have b1:=yH ((Below.refl w.heap.size w).alloc (yR _) (.cells Tryz.zeroCells39 39))
 have HR:=yH (view_head (hv.below b1.out hv.lt))
 have Z:=yH (heap_alloc_new w (.cells Tryz.zeroCells39 39))
 clear hv
 go_enter Tryz.func106,Tryz.ntmps106
 go_wp2_with(first
  |((with_reducible apply at_slot 6);refine wpList_load_mid rfl 39 (.tmp 5) rfl gv 0 rfl (h.cells 21) _ HR.out Tryz.underlying39 rfl (hcells_len _) ?_)
  |((with_reducible apply at_store (.tmp 2) (.tmp 6));refine wpList_store_row rfl 39 (.tmp 2) (.tmp 6) rfl w.heap.size (h.cells 21).toArray rfl rfl 39 Tryz.zeroCells39 Z.out (cells_info _) zeros_size (HD.one _ 21) ?_)
  |fail)
 refine bodyPost_ret (v:= .agg (h.cells 21).toArray) (by exact results_cell_row Tryz.results106 _ _ w.heap.size 39 _ (0,0) _ rfl (setRow_heap _ w.heap.size _ _ _ (0,0) Z.out) Tryz.underlying39 rfl (cells_info _)) rfl ?_
 exact⟨rfl,below_setRow b1.out (yR _) _⟩
end Lk
namespace Rc
open Bytes8 Blk8 Own8 OwnE Rows2 Ga Gb Ra
abbrev haltE (c:Int):PanicEntry:={v:= .iface 337 (.int .i64 c),recovered:=false}
attribute [local irreducible] wpList Code.wp
theorem need_yes (c:Int)(w:World):Calls Tryz.prog 222 #[.bool true,.int .i64 c] w fun e w'=>e= .returned (.tuple #[])∧w=w':=by
 go_enter Tryz.func222,Tryz.ntmps222
 go_wp2
 go_end0
 exact⟨rfl,rfl⟩
theorem need_no (c:Int)(w:World):Calls Tryz.prog 222 #[.bool false,.int .i64 c] w fun e w'=>e= .panicked [haltE c]∧w=w':=by
 go_enter Tryz.func222,Tryz.ntmps222
 go_wp2
 exact⟨rfl,rfl,rfl⟩
structure ViewAt (w:World)(gv:Nat)(h:HD)(A:Option Addr)(n c:Nat)(l:List Int):Prop where
 blk:Blk w gv (viewC h (.slice A n c)) 160
 by_:Bytes w A l
 len:l.length=n
 cap:n≤c
 big:n≤1000000
 ok:h.Ok 21
theorem ViewAt.below {w w':World}{gv:Nat}{h:HD}{A:Option Addr}{n c:Nat}{l:List Int}(v:ViewAt w gv h A n c l)(hb:Below w.heap.size w w'):ViewAt w' gv h A n c l:=
 ⟨v.blk.below hb v.blk.lt,v.by_.below hb (yR _),v.len,v.cap,v.big,v.ok⟩
theorem view_N (h:HD)(b:Value)(i:Nat)(hi:i<21):(viewC h b)[67+i]? =some (.int .u64 (h.N i)):=by
 unfold viewC
 rw[List.getElem?_append_left (by rw[HD.len];omega)]
 exact h.get_N 21 i hi
theorem view_b (h:HD)(b:Value):(viewC h b)[91]? =some b:=by
 unfold viewC
 rw[List.getElem?_append_right (by rw[HD.len];omega),HD.len]
 rfl
theorem vend_any {gv:Nat}{h:HD}{A:Option Addr}{n c:Nat}{l:List Int}(w:World)(v:ViewAt w gv h A n c l):Calls Tryz.prog 105 #[.pointer (some ⟨gv,0,none⟩)] w fun e w'=>e= .returned (.int .u64 (n:Int))∧w=w':=by
 have c91:=v.blk.cell (view_b _ _)
 have hn:=v.big
 have hw:IntKind.u64.wrap (n:Int)=(n:Int):=by rw[IntKind.wrap_u64];omega
 clear v
 go_enter Tryz.func105,Tryz.ntmps105
 go_wp2
 go_ret
 exact⟨rfl,rfl⟩
theorem from_yes {gv:Nat}{h:HD}{A:Option Addr}{n c:Nat}{l:List Int}(at_:Int)(w:World)(v:ViewAt w gv h A n c l)(h1:h.N 0≤at_)(h2:at_<(n:Int)):Calls Tryz.prog 200 #[.pointer (some ⟨gv,0,none⟩),.int .u64 at_] w fun e w'=>e= .returned (.slice A n c)∧w=w':=by
 have c91:=v.blk.cell (view_b _ _)
 have c67:w.cell? ⟨gv,67,none⟩=some (.int .u64 (h.N 0)):=v.blk.cell (view_N _ _ 0 (by decide))
 have HE:=yH (vend_any w v)
 have HN:=yH (need_yes 2)
 have d1:decide (h.N 0≤at_)=true:=by simpa using h1
 have d2:decide (at_<(n:Int))=true:=by simpa using h2
 clear v
 go_enter Tryz.func200,Tryz.ntmps200
 go_wp2_with(first
  |(go_at_call 105;(refine HE.out.mono ?_);rintro e w1 ⟨rfl,rfl⟩)
  |(go_at_call 222;(refine(HN.out _).mono ?_);rintro e w1 ⟨rfl,rfl⟩)
  |fail)
 go_ret
 exact⟨rfl,rfl⟩
theorem from_no {gv:Nat}{h:HD}{A:Option Addr}{n c:Nat}{l:List Int}(at_:Int)(w:World)(v:ViewAt w gv h A n c l)(h1: ¬(h.N 0≤at_∧at_<(n:Int))):Calls Tryz.prog 200 #[.pointer (some ⟨gv,0,none⟩),.int .u64 at_] w fun e w'=>e= .panicked [haltE 2]∧w=w':=by
 have c91:=v.blk.cell (view_b _ _)
 have c67:w.cell? ⟨gv,67,none⟩=some (.int .u64 (h.N 0)):=v.blk.cell (view_N _ _ 0 (by decide))
 have HE:=yH (vend_any w v)
 have HN:=yH (need_no 2)
 clear v
 by_cases h3:h.N 0≤at_
 ·have d1:decide (h.N 0≤at_)=true:=by simpa using h3
  have d2:decide (at_<(n:Int))=false:=by simp;omega
  have d3: ¬at_<(n:Int):=by omega
  clear h1
  go_enter Tryz.func200,Tryz.ntmps200
  go_wp2_with(first
   |(go_at_call 105;(refine HE.out.mono ?_);rintro e w1 ⟨rfl,rfl⟩)
   |(go_at_call 222;(refine(HN.out _).mono ?_);rintro e w1 ⟨rfl,rfl⟩)
   |fail)
  exact⟨rfl,rfl,rfl⟩
 ·have d1:decide (h.N 0≤at_)=false:=by simpa using h3
  clear h1
  go_enter Tryz.func200,Tryz.ntmps200
  go_wp2_with(first
   |(go_at_call 222;(refine(HN.out _).mono ?_);rintro e w1 ⟨rfl,rfl⟩)
   |fail)
  exact⟨rfl,rfl,rfl⟩
end Rc
end Go.Proofs.YtiddkgcafpaekaaGreat
