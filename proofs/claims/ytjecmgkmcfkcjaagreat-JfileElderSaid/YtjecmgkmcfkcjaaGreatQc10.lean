/-
  Texts beneath the proof.
-/
import Derived.Test.YtjecmgkmcfkcjaaGreatQc9
set_option linter.unusedVariables false
set_option linter.unusedSimpArgs false
set_option maxRecDepth 100000
set_option maxHeartbeats 4000000
open Go.ChangeShapes Go.WideShapes Go.ChangeAt Go.RowKit
namespace Go.Proofs.YtjecmgkmcfkcjaaGreat
namespace Go1
open Bytes8 Blk8 Own8 OwnE Ga Gb Gi Gj Gk Gm
def magicB (l:List Int):Bool:=(strOfNums (l.take 8)).toList== [76,80,75,83,72,72,82,72]
def hcode (l:List Int)(n:Nat):Int:=if n<272 then 22 else if magicB l=false then 6 else fcode (hdOf l) n
def rhd (l:List Int)(n:Nat):HD:=if hcode l n=0 then hdOf l else hd0
abbrev HTold (h:HD)(c:Int)(w:World)(e:Ending)(w':World):Prop:=e= .returned (.tuple #[.agg (h.cells 21).toArray,.int .i64 c])∧Below w.heap.size w w'
theorem bytes_take {w:World}{A:Option Addr}{l:List Int}(hb:Bytes w A l)(k:Nat):Bytes w A (l.take k):=⟨hb.1.take k,fun i hi=>by
 have h1:i<k∧i<l.length:=by simp at hi;omega
 obtain⟨b,off,e,hlt,hcell⟩:=hb.2 i h1.2
 refine⟨b,off,e,hlt,?_⟩
 rw[hcell]
 simp[List.getD_eq_getElem?_getD,List.getElem?_take_of_lt h1.1]⟩
attribute [local irreducible] HD.cells wpList Code.wp
theorem read_magic (A:Option Addr)(l:List Int)(n c:Nat)(w:World)(hb:Bytes w A l)(hL:l.length=n)(h272:272≤n)(hc:n≤c)(hm:magicB l=false):
 Calls Tryz.prog 66 #[.slice A n c] w (HTold hd0 6 w):=by
 have d1: ¬(n:Int)<272:=by omega
 go_enter Tryz.func66,Tryz.ntmps66
 go_upto_region 1 with fail
 have b1:=Lib.hid ((Below.refl w.heap.size w).alloc (Nat.le_refl _) (.cells Tryz.zeroCells78 78))
 have Z1:=Lib.hid (heap_alloc_new w (.cells Tryz.zeroCells78 78))
 generalize w.alloc (.cells Tryz.zeroCells78 78)=w1 at*
 have h8:(l.take 8).length=8:=by simp;omega
 have hst:=(bytes_take (hb.below b1.out (Nat.le_refl _)) 8).string c 8 h8
 have hS:(!(strOfNums (l.take 8)).toList== [76,80,75,83,72,72,82,72])=true:=by unfold magicB at hm;rw[hm];rfl
 generalize strOfNums (l.take 8)=S at*
 have hcc:(8:Int)≤(c:Int):=by omega
 clear hb h8 hm
 go_wp2_with(first
  |((with_reducible apply at_slot 14);refine wpList_build_zero rfl 78 rfl _ zero_built ?_)
  |((with_reducible apply at_store (.tmp 2) (.tmp 14));refine wpList_store_row rfl 78 (.tmp 2) (.tmp 14) rfl w.heap.size (hd0.cells 21).toArray rfl rfl 78 Tryz.zeroCells78 Z1.out (cells_info _) zeros_size (HD.one _ 21) ?_))
 refine bodyPost_ret (v:= .tuple #[.agg (hd0.cells 21).toArray,.int .i64 6]) (by exact res_rowG Tryz.results66 _ _ w.heap.size 78 _ (0,0) _ _ rfl rfl (setRow_heap _ _ _ _ _ (0,0) Z1.out) Tryz.underlying78 rfl (cells_info _)) rfl ?_
 exact⟨rfl,below_setRow b1.out (Nat.le_refl _) _⟩
theorem read_taken (A:Option Addr)(l:List Int)(n c:Nat)(w:World)(hb:Bytes w A l)(hL:l.length=n)(h272:272≤n)(hn:n≤1000000)(hc:n≤c)(hm:magicB l=true)(cd:Int)(hcd:fcode (hdOf l) n=cd):
 Calls Tryz.prog 66 #[.slice A n c] w (HTold (if cd=0 then hdOf l else hd0) cd w):=by
 have d1: ¬(n:Int)<272:=by omega
 have HT:=Lib.hid fun(W:World) (hW:Bytes W A l)=>taken_any A l n c W hW hL h272 hn hc
 have HF:=Lib.hid fun(W:World)=>fault_any (hdOf l) (hdOf_ok hb.1 21) (n:Int) (by omega) W
 rw[hcd]at HF
 go_enter Tryz.func66,Tryz.ntmps66
 go_upto_region 1 with fail
 have b1:=Lib.hid ((Below.refl w.heap.size w).alloc (Nat.le_refl _) (.cells Tryz.zeroCells78 78))
 have Z1:=Lib.hid (heap_alloc_new w (.cells Tryz.zeroCells78 78))
 have S1:=Lib.hid (show(w.alloc (.cells Tryz.zeroCells78 78)).heap.size=w.heap.size+1 by simp)
 generalize w.alloc (.cells Tryz.zeroCells78 78)=w1 at*
 have h8:(l.take 8).length=8:=by simp;omega
 have HB1:=Lib.hid (hb.below b1.out (Nat.le_refl _))
 have hst:=(bytes_take HB1.out 8).string c 8 h8
 have hS:(!(strOfNums (l.take 8)).toList== [76,80,75,83,72,72,82,72])=false:=by unfold magicB at hm;rw[hm];rfl
 generalize strOfNums (l.take 8)=S at*
 have hcc:(8:Int)≤(c:Int):=by omega
 clear hb h8 hm hcd
 go_upto_region 6 with(first
  |(go_at_call 122;((with_reducible refine(HT.out _ HB1.out).mono ?_);rintro e w2 ⟨rfl,hb2⟩;have B2:=Lib.hid hb2;clear hb2))
  |((with_reducible apply at_store (.tmp 4) (.tmp 16));refine wpList_store_row rfl 78 (.tmp 4) (.tmp 16) rfl w2.heap.size ((hdOf l).cells 21).toArray rfl rfl 78 Tryz.zeroCells78 (heap_alloc_new w2 _) (cells_info _) zeros_size (HD.one _ 21) ?_))
 have R3:=Lib.hid (show Blk ((w2.alloc (.cells Tryz.zeroCells78 78)).setRow w2.heap.size ((hdOf l).cells 21).toArray) w2.heap.size ((hdOf l).cells 21) 78 from setRow_heap _ _ _ _ _ (0,0) (heap_alloc_new w2 _))
 have B3:=Lib.hid (show Below w1.heap.size w1 ((w2.alloc (.cells Tryz.zeroCells78 78)).setRow w2.heap.size ((hdOf l).cells 21).toArray)from below_setRow (B2.out.alloc B2.out.size _) B2.out.size _)
 generalize (w2.alloc (.cells Tryz.zeroCells78 78)).setRow w2.heap.size ((hdOf l).cells 21).toArray=w3 at*
 clear hst hS
 go_upto_region 7 with(first
  |((with_reducible apply at_slot 17);refine wpList_load_row rfl 78 (.tmp 4) rfl w2.heap.size rfl 78 ((hdOf l).cells 21).toArray (0,0) _ R3.out Tryz.underlying78 rfl (cells_info _) ?_)
  |(go_at_call 123;((with_reducible refine(HF.out _).mono ?_);rintro e w4 ⟨rfl,hb4⟩;have R4:=Lib.hid (R3.out.below hb4 R3.out.lt);have B4:=Lib.hid (B3.out.trans (hb4.mono B3.out.size));clear hb4)))
 have Z4:=Lib.hid ((B4.out.block w.heap.size (by rw[S1.out];exact Nat.lt_succ_self _)).trans Z1.out)
 have Bz:=Lib.hid (b1.out.trans (B4.out.mono (by rw[S1.out];exact Nat.le_succ _)))
 by_cases hz:cd=0
 ·rw[if_pos hz]
  subst hz
  go_wp2_with(first
   |((with_reducible apply at_slot 26);refine wpList_load_row rfl 78 (.tmp 4) rfl w2.heap.size rfl 78 ((hdOf l).cells 21).toArray (0,0) _ R4.out Tryz.underlying78 rfl (cells_info _) ?_)
   |((with_reducible apply at_store (.tmp 2) (.tmp 26));refine wpList_store_row rfl 78 (.tmp 2) (.tmp 26) rfl w.heap.size ((hdOf l).cells 21).toArray rfl rfl 78 Tryz.zeroCells78 Z4.out (cells_info _) zeros_size (HD.one _ 21) ?_))
  refine bodyPost_ret (v:= .tuple #[.agg ((hdOf l).cells 21).toArray,.int .i64 0]) (by exact res_rowG Tryz.results66 _ _ w.heap.size 78 _ (0,0) _ _ rfl rfl (setRow_heap _ _ _ _ _ (0,0) Z4.out) Tryz.underlying78 rfl (cells_info _)) rfl ?_
  exact⟨rfl,below_setRow Bz.out (Nat.le_refl _) _⟩
 ·rw[if_neg hz]
  have dz:(cd !=0)=true:=by simp[hz]
  go_wp2_with(first
   |((with_reducible apply at_slot 24);refine wpList_build_zero rfl 78 rfl _ zero_built ?_)
   |((with_reducible apply at_store (.tmp 2) (.tmp 24));refine wpList_store_row rfl 78 (.tmp 2) (.tmp 24) rfl w.heap.size (hd0.cells 21).toArray rfl rfl 78 Tryz.zeroCells78 Z4.out (cells_info _) zeros_size (HD.one _ 21) ?_))
  refine bodyPost_ret (v:= .tuple #[.agg (hd0.cells 21).toArray,.int .i64 cd]) (by exact res_rowG Tryz.results66 _ _ w.heap.size 78 _ (0,0) _ _ rfl rfl (setRow_heap _ _ _ _ _ (0,0) Z4.out) Tryz.underlying78 rfl (cells_info _)) rfl ?_
  exact⟨rfl,below_setRow Bz.out (Nat.le_refl _) _⟩
theorem hread_any (A:Option Addr)(l:List Int)(n c:Nat)(w:World)(hb:Bytes w A l)(hL:l.length=n)(hn:n≤1000000)(hc:n≤c):
 Calls Tryz.prog 66 #[.slice A n c] w (HTold (rhd l n) (hcode l n) w):=by
 unfold rhd
 by_cases h1:n<272
 ·rw[show hcode l n=22 from if_pos h1,if_neg (by decide)]
  exact read_short A n c w h1
 by_cases h2:magicB l=false
 ·rw[show hcode l n=6 by unfold hcode;rw[if_neg h1,if_pos h2],if_neg (by decide)]
  exact read_magic A l n c w hb hL (by omega) hc h2
 ·have h2':magicB l=true:=by simpa using h2
  exact read_taken A l n c w hb hL (by omega) hn hc h2' _ (by unfold hcode;rw[if_neg h1,if_neg h2])
end Go1
namespace Gp
open Bytes8 OwnE Ob Ga Gb
abbrev z16:List Value:=[.int .u8 0,.int .u8 0,.int .u8 0,.int .u8 0,.int .u8 0,.int .u8 0,.int .u8 0,.int .u8 0,.int .u8 0,.int .u8 0,.int .u8 0,.int .u8 0,.int .u8 0,.int .u8 0,.int .u8 0,.int .u8 0]
attribute [local irreducible] wpList Code.wp
theorem cells_set (h k:HD)(m p:Nat)(v:Value)(hp:p<70+m)(h1:k.at_ m p=v)(h2: ∀i,i<70+m→i≠p→k.at_ m i=h.at_ m i):(h.cells m).set p v=k.cells m:=by
 apply List.ext_getElem?
 intro i
 rw[List.getElem?_set]
 by_cases hi:i<70+m
 ·by_cases he:p=i
  ·subst he
   rw[if_pos rfl,if_pos (by rw[HD.len];exact hp),HD.get _ m _ hi,h1]
  ·rw[if_neg he,HD.get _ m i hi,HD.get _ m i hi,h2 i hi (fun e=>he e.symm)]
 ·rw[if_neg (by omega),List.getElem?_eq_none (by rw[HD.len];omega),List.getElem?_eq_none (by rw[HD.len];omega)]
end Gp
namespace Gq
open OwnE Ga Gb
def stR (p v:Value):Sem Unit:=Instr.storeAt 126 p v
theorem st_fold (p v:Value):Instr.storeAt 126 p v=stR p v:=rfl
def bldR (parts:Array (Nat×Value)):Sem Value:=Instr.build 126 parts
theorem bld_fold (parts:Array (Nat×Value)):Instr.build 126 parts=bldR parts:=rfl
theorem rcells_info (h:HD):(Tryz.prog.info? 126).map (·.size)=some (h.cells 20).toArray.size:=by rw[rheadInfo];simp[HD.len]
theorem rcells_len (h:HD):(Tryz.prog.info? 126).map (·.size)=some (h.cells 20).length:=by rw[rheadInfo];simp[HD.len]
theorem rzeros_size {h:HD}:Tryz.zeroCells126.size=(h.cells 20).toArray.size:=by rw[show Tryz.zeroCells126.size=90 by kernel_rfl];simp[HD.len]
attribute [local irreducible] HD.cells wpList Code.wp
attribute [local go_sem ↓] st_fold bld_fold
end Gq
end Go.Proofs.YtjecmgkmcfkcjaaGreat
