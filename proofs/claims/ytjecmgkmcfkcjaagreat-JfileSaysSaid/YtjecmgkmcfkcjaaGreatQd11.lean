/-
  Texts beneath the proof.
-/
import Derived.Test.YtjecmgkmcfkcjaaGreatQd10
set_option linter.unusedVariables false
set_option linter.unusedSimpArgs false
set_option maxRecDepth 100000
set_option maxHeartbeats 8000000
open Go.ChangeShapes Go.WideShapes Go.ChangeAt Go.RowKit
namespace Go.Proofs.YtjecmgkmcfkcjaaGreat
namespace Gp
open Bytes8 Blk8 Own8 OwnE Ob Ga Gb Gj
def id16 (l:List Int)(p:Nat):List Value:=(List.range 16).map fun i=> .int .u8 (l.getD (p+i) 0)
def id16k (l:List Int)(p k:Nat):List Value:=(List.range 16).map fun i=> .int .u8 (if i<k then l.getD (p+i) 0 else 0)
theorem id16k_len (l:List Int)(p k:Nat):(id16k l p k).length=16:=by simp[id16k]
theorem id16k_whole (l:List Int)(p:Nat):id16k l p 16=id16 l p:=by
 unfold id16k id16
 apply List.map_congr_left
 intro i hi
 rw[if_pos (List.mem_range.1 hi)]
theorem id16k_get (l:List Int)(p k i:Nat)(hi:i<16):(id16k l p k)[i]? =some (.int .u8 (if i<k then l.getD (p+i) 0 else 0)):=by simp[id16k,hi]
theorem id16k_set (l:List Int)(p k:Nat)(hk:k<16):(id16k l p k).set k (.int .u8 (l.getD (p+k) 0))=id16k l p (k+1):=by
 apply List.ext_getElem?
 intro i
 rw[List.getElem?_set]
 by_cases hi:i<16
 ·by_cases he:k=i
  ·subst he
   rw[if_pos rfl,if_pos (by rw[id16k_len];exact hk),id16k_get _ _ _ _ hi,if_pos (Nat.lt_succ_self _)]
  ·rw[if_neg he,id16k_get _ _ _ _ hi,id16k_get _ _ _ _ hi]
   by_cases h4:i<k
   ·rw[if_pos h4,if_pos (by omega)]
   ·rw[if_neg h4,if_neg (by omega)]
 ·rw[if_neg (by omega),List.getElem?_eq_none (by rw[id16k_len];omega),List.getElem?_eq_none (by rw[id16k_len];omega)]
theorem id16_one (l:List Int)(p:Nat):(id16 l p).toArray.all (·.oneCell')=true:=by
 rw[Array.all_eq_true_iff_forall_mem]
 intro x hx
 simp only[id16,List.mem_toArray,List.mem_map]at hx
 obtain⟨i,_,rfl⟩:=hx
 rfl
theorem id16_info (l:List Int)(p:Nat):(Tryz.prog.info? 62).map (·.size)=some (id16 l p).toArray.size:=by rw[idInfo];simp[id16]
theorem id16_idc (l:List Int)(k:Nat):id16 l (24+16*k)=idc (hdOf l) k:=by
 unfold id16 idc HD.id hdOf
 rw[List.map_map]
 apply List.map_congr_left
 intro i _
 simp[Nat.add_assoc]
abbrev z16:List Value:=[.int .u8 0,.int .u8 0,.int .u8 0,.int .u8 0,.int .u8 0,.int .u8 0,.int .u8 0,.int .u8 0,.int .u8 0,.int .u8 0,.int .u8 0,.int .u8 0,.int .u8 0,.int .u8 0,.int .u8 0,.int .u8 0]
attribute [local irreducible] wpList Code.wp
theorem rid_any (A:Option Addr)(l:List Int)(n c p:Nat)(w:World)(hb:Bytes w A l)(hL:l.length=n)(hn:n≤1000000)(hp:p+16≤n):
 Calls Tryz.prog 179 #[.slice A n c,.int .i64 (p:Int)] w fun e w'=>e= .returned (.agg (id16 l p).toArray)∧Below w.heap.size w w':=by
 obtain⟨bb,off,rfl,hblt,hcell⟩:=hb.spot (by omega)
 have HB:=Lib.hid hcell
 clear hcell hb
 have R0:=Lib.hid (show Blk ((w.alloc (.cells z16.toArray 62)).alloc (.cells z16.toArray 62)) w.heap.size z16 62 from(Blk.new w z16 _).alloc _)
 have Q0:=Lib.hid (show Blk ((w.alloc (.cells z16.toArray 62)).alloc (.cells z16.toArray 62)) (w.heap.size+1) (id16k l p 0) 62 from Blk.new_at _ _ _ _ (by simp))
 have b0:=Lib.hid (((Below.refl w.heap.size w).alloc (Nat.le_refl _) (.cells z16.toArray 62)).alloc (by simp) (.cells z16.toArray 62))
 have S0:=Lib.hid (show((w.alloc (.cells z16.toArray 62)).alloc (.cells z16.toArray 62)).heap.size=w.heap.size+2 by simp)
 go_enter Tryz.func179,Tryz.ntmps179
 go_upto_region 2 with fail
 generalize (w.alloc (.cells z16.toArray 62)).alloc (.cells z16.toArray 62)=w0 at*
 go_wp2_with fail
 go_loopw [6] (fun i wr=> ∃k:Nat,k≤16∧i= .int .i64 (k:Int)∧Hid (Blk wr (w.heap.size+1) (id16k l p k) 62)∧Hid (Below (w.heap.size+1) w0 wr)) (fun i _=>16-(intOf i).toNat)
 case atStart=>exact⟨0,Nat.zero_le _,rfl,Q0,Lib.hid (Below.refl _ _)⟩
 case round=>
  obtain⟨k,hk,rfl,hR,hB⟩:=hrel
  by_cases hlt:k<16
  ·have hst:=Lib.hid (id16k_set l p k hlt)
   have hce:wr.cell? ⟨bb,off+(p+k),none⟩=some (.int .u8 (l.getD (p+k) 0)):=((hB.out.cell (p:=⟨bb,off+(p+k),none⟩) (Nat.lt_succ_of_lt hblt)).trans (b0.out.cell (p:=⟨bb,off+(p+k),none⟩) hblt)).trans (HB.out (p+k) (by omega))
   have ck:=hR.out.cell (id16k_get l p k k hlt)
   have fk:=hR.out.frozen k
   have hpk:(p:Int)+(k:Int)<(n:Int):=by omega
   have hpk0:(0:Int)≤(p:Int)+(k:Int):=by omega
   generalize l.getD (p+k) 0=x at*
   go_wp2_with fail
   go_roundw
   case rel=>exact⟨k+1,by omega,by go_num,Lib.hid (by rw[←hst.out];exact hR.out.set_ k _),Lib.hid (hB.out.setCell (Nat.le_refl _) _)⟩
   case measure=>simp[intOf];omega
  ·obtain rfl:k=16:=by omega
   have Rz:=Lib.hid (show Blk wr (w.heap.size+1) (id16 l p) 62 by rw[←id16k_whole];exact hR.out)
   have Z:=Lib.hid ((hB.out.block w.heap.size (Nat.lt_succ_self _)).trans R0.out)
   have Bz:=Lib.hid (b0.out.trans (hB.out.mono (Nat.le_succ _)))
   clear hR hB
   go_wp2_with(first
    |((with_reducible apply at_slot 19);refine wpList_load_row rfl 62 (.tmp 5) rfl (w.heap.size+1) rfl 62 (id16 l p).toArray (0,0) _ Rz.out Tryz.underlying62 rfl (id16_info l p) ?_)
    |((with_reducible apply at_store (.tmp 4) (.tmp 19));refine wpList_store_row rfl 62 (.tmp 4) (.tmp 19) rfl w.heap.size (id16 l p).toArray rfl rfl 62 _ Z.out (id16_info l p) (by simp[id16]) (id16_one l p) ?_)
    |fail)
   refine bodyPost_ret (v:= .agg (id16 l p).toArray) (by exact results_cell_row Tryz.results179 _ _ w.heap.size 62 _ (0,0) _ rfl (setRow_heap _ w.heap.size _ _ _ (0,0) Z.out) Tryz.underlying62 rfl (id16_info l p)) rfl ?_
   exact⟨rfl,below_setRow Bz.out (Nat.le_refl _) _⟩
theorem cells_set (h k:HD)(m p:Nat)(v:Value)(hp:p<70+m)(h1:k.at_ m p=v)(h2: ∀i,i<70+m→i≠p→k.at_ m i=h.at_ m i):(h.cells m).set p v=k.cells m:=by
 apply List.ext_getElem?
 intro i
 rw[List.getElem?_set]
 by_cases hi:i<70+m
 ·by_cases he:p=i
  ·subst he
   rw[if_pos rfl,if_pos (by rw[HD.len];exact hp),HD.get _ m _ hi,h1]
  ·rw[if_neg he,HD.get _ m i hi,HD.get _ m i hi,h2 i hi (fun e=>he e.symm)]
 ·rw[if_neg (by omega),List.getElem?_eq_none (by rw[HD.len];omega),List.getElem?_eq_none (by rw[HD.len];omega)]
theorem set_cp (h:HD)(m p:Nat)(v:Int)(hp:p=0):(h.cells m).set p (.int .u32 v)=({h with cp:=v}:HD).cells m:=by
 subst hp
 refine cells_set _ _ m _ _ (by omega) ?_ (fun i hi hne=>?_)
 ·unfold HD.at_
  rfl
 ·unfold HD.at_
  repeat' split
  all_goals first|rfl|(exfalso;omega)
theorem set_ic (h:HD)(m p:Nat)(v:Int)(hp:p=1):(h.cells m).set p (.int .u32 v)=({h with ic:=v}:HD).cells m:=by
 subst hp
 refine cells_set _ _ m _ _ (by omega) ?_ (fun i hi hne=>?_)
 ·unfold HD.at_
  rfl
 ·unfold HD.at_
  repeat' split
  all_goals first|rfl|(exfalso;omega)
theorem set_ta (h:HD)(m p:Nat)(v:Int)(hp:p=67+m):(h.cells m).set p (.int .u32 v)=({h with ta:=v}:HD).cells m:=by
 subst hp
 refine cells_set _ _ m _ _ (by omega) ?_ (fun i hi hne=>?_)
 ·unfold HD.at_
  rw[if_neg (by omega),if_neg (by omega),if_neg (by omega),if_pos rfl]
 ·unfold HD.at_
  repeat' split
  all_goals first|rfl|(exfalso;omega)
theorem set_ti (h:HD)(m p:Nat)(v:Int)(hp:p=68+m):(h.cells m).set p (.int .u32 v)=({h with ti:=v}:HD).cells m:=by
 subst hp
 refine cells_set _ _ m _ _ (by omega) ?_ (fun i hi hne=>?_)
 ·unfold HD.at_
  rw[if_neg (by omega),if_neg (by omega),if_neg (by omega),if_neg (by omega),if_pos rfl]
 ·unfold HD.at_
  repeat' split
  all_goals first|rfl|(exfalso;omega)
theorem set_te (h:HD)(m p:Nat)(v:Int)(hp:p=69+m):(h.cells m).set p (.int .u64 v)=({h with te:=v}:HD).cells m:=by
 subst hp
 refine cells_set _ _ m _ _ (by omega) ?_ (fun i hi hne=>?_)
 ·unfold HD.at_
  rw[if_neg (by omega),if_neg (by omega),if_neg (by omega),if_neg (by omega),if_neg (by omega)]
 ·unfold HD.at_
  repeat' split
  all_goals first|rfl|(exfalso;omega)
end Gp
namespace Gq
open Bytes8 Blk8 Own8 OwnE LeA RefA Ob Oc Ga Gb Gi Gj Gp
def stR (p v:Value):Sem Unit:=Instr.storeAt 126 p v
theorem st_fold (p v:Value):Instr.storeAt 126 p v=stR p v:=rfl
def bldR (parts:Array (Nat×Value)):Sem Value:=Instr.build 126 parts
theorem bld_fold (parts:Array (Nat×Value)):Instr.build 126 parts=bldR parts:=rfl
theorem rcells_info (h:HD):(Tryz.prog.info? 126).map (·.size)=some (h.cells 20).toArray.size:=by rw[rheadInfo];simp[HD.len]
theorem rcells_len (h:HD):(Tryz.prog.info? 126).map (·.size)=some (h.cells 20).length:=by rw[rheadInfo];simp[HD.len]
theorem rzeros_size {h:HD}:Tryz.zeroCells126.size=(h.cells 20).toArray.size:=by rw[show Tryz.zeroCells126.size=90 by kernel_rfl];simp[HD.len]
theorem store_head (w:World)(g:Nat)(old cs:Array Value)(h:w.heap[g]? =some (.cells old 126 (0,0)))(ho:old.size=cs.size)(hi:(Tryz.prog.info? 126).map (·.size)=some cs.size)(h1:cs.all (·.oneCell')=true):
 (stR (.pointer (some ⟨g,0,none⟩)) (.agg cs)).run Tryz.prog w= .ok () (w.setRow g cs):=by
 unfold stR
 simp only[Instr.storeAt,Instr.sureAddr,Sem.run_bind,Sem.run_pure,Result.andThen_ok]
 exact run_storeVar_row w g 126 126 old cs h hi ho h1
theorem rhd_built (h:HD)(st:Int):Tryz.prog.built 126 [(2,.int .i64 st),(3,.agg (idc h 0).toArray),(4,.agg (idc h 1).toArray),(5,.agg (idc h 2).toArray),(6,.agg (idc h 3).toArray)]=some ((⟨0,0,st,h.I,fun _=>0,0,0,0⟩:HD).cells 20).toArray:=by kernel_rfl
theorem build_head (w:World)(h:HD)(st:Int):(bldR #[(2,.int .i64 st),(3,.agg (idc h 0).toArray),(4,.agg (idc h 1).toArray),(5,.agg (idc h 2).toArray),(6,.agg (idc h 3).toArray)]).run Tryz.prog w= .ok (.agg ((⟨0,0,st,h.I,fun _=>0,0,0,0⟩:HD).cells 20).toArray) w:=by
 unfold bldR
 exact run_build w _ _ _ (rhd_built h st)
theorem lt_of_heap {w:World}{g:Nat}{o:Obj}(h:w.heap[g]? =some o):g<w.heap.size:=(Array.getElem?_eq_some_iff.1 h).1
attribute [local irreducible] HD.cells idc wpList Code.wp
attribute [local go_sem ↓] st_fold bld_fold
def Raw1 (bb off:Nat)(s16:Int)(cs:List Value)(w1 W:World)(g:Nat):Prop:=Blk (W.setRow g cs.toArray) g cs 126∧Below w1.heap.size w1 (W.setRow g cs.toArray)∧(W.setRow g cs.toArray).cell? ⟨bb,off+16,none⟩=some (.int .u8 s16)
theorem raw_any (A:Option Addr)(l:List Int)(n c:Nat)(w:World)(hb:Bytes w A l)(hL:l.length=n)(h272:272≤n)(hn:n≤1000000):
 Calls Tryz.prog 125 #[.slice A n c] w fun e w'=>e= .returned (.tuple #[.agg ((hdOf l).cells 20).toArray,.int .u64 (Ob.u8 l 248)])∧Below w.heap.size w w':=by
 have HI24:=Lib.hid fun(W:World) (hW:Bytes W A l)=>show Calls Tryz.prog 179 #[.slice A n c,.int .i64 24] W fun e w'=>e= .returned (.agg (idc (hdOf l) 0).toArray)∧Below W.heap.size W w' by
  rw[←id16_idc l 0]
  exact rid_any A l n c 24 W hW hL hn (by omega)
 have HI40:=Lib.hid fun(W:World) (hW:Bytes W A l)=>show Calls Tryz.prog 179 #[.slice A n c,.int .i64 40] W fun e w'=>e= .returned (.agg (idc (hdOf l) 1).toArray)∧Below W.heap.size W w' by
  rw[←id16_idc l 1]
  exact rid_any A l n c 40 W hW hL hn (by omega)
 have HI56:=Lib.hid fun(W:World) (hW:Bytes W A l)=>show Calls Tryz.prog 179 #[.slice A n c,.int .i64 56] W fun e w'=>e= .returned (.agg (idc (hdOf l) 2).toArray)∧Below W.heap.size W w' by
  rw[←id16_idc l 2]
  exact rid_any A l n c 56 W hW hL hn (by omega)
 have HI72:=Lib.hid fun(W:World) (hW:Bytes W A l)=>show Calls Tryz.prog 179 #[.slice A n c,.int .i64 72] W fun e w'=>e= .returned (.agg (idc (hdOf l) 3).toArray)∧Below W.heap.size W w' by
  rw[←id16_idc l 3]
  exact rid_any A l n c 72 W hW hL hn (by omega)
 have U16:=hb.1.at_ 16
 have K16:IntKind.i64.wrap (l.getD 16 0)=l.getD 16 0:=by rw[IntKind.wrap_i64];omega
 obtain⟨bb,off,rfl,hblt,hcell⟩:=hb.spot (by omega)
 have HB:=Lib.hid hb
 have HCell:=Lib.hid (hcell 16 (by omega))
 have HLt:=Lib.hid hblt
 clear hcell hblt
 go_enter Tryz.func125,Tryz.ntmps125
 go_upto_region 1 with fail
 have b1:=Lib.hid ((Below.refl w.heap.size w).alloc (Nat.le_refl _) (.cells Tryz.zeroCells126 126))
 have Z1:=Lib.hid (heap_alloc_new w (.cells Tryz.zeroCells126 126))
 have s1:=Lib.hid (show(w.alloc (.cells Tryz.zeroCells126 126)).heap.size=w.heap.size+1 by simp)
 generalize w.alloc (.cells Tryz.zeroCells126 126)=w1 at*
 have hst16:(hdOf l).st=l.getD 16 0:=rfl
 generalize l.getD 16 0=s16 at*
 have HS16:=Lib.hid hst16
 clear hst16 U16
 have hlt1:=Lib.hid (Nat.lt_of_lt_of_le HLt.out b1.out.size)
 have HQ:=Lib.hid fun(W:World) (hW:Below w1.heap.size w1 W)=>show W.cell? ⟨bb,off+16,none⟩=some (.int .u8 s16)from(hW.cell (p:=⟨bb,off+16,none⟩) hlt1.out).trans ((b1.out.cell (p:=⟨bb,off+16,none⟩) HLt.out).trans HCell.out)
 have HSt:=Lib.hid fun(W:World) (g:Nat) (hg:w1.heap.size≤g) (hZ:W.heap[g]? =some (.cells Tryz.zeroCells126 126 (0,0)))=>store_head W g _ ((⟨0,0,s16,(hdOf l).I,fun _=>0,0,0,0⟩:HD).cells 20).toArray hZ rzeros_size (rcells_info _) (HD.one _ 20)
 have HQ2:=Lib.hid fun(W:World) (g:Nat) (hg:w1.heap.size≤g) (hW:Below w1.heap.size w1 W) (hZ:W.heap[g]? =some (.cells Tryz.zeroCells126 126 (0,0)))=>show Raw1 bb off s16 ((⟨0,0,s16,(hdOf l).I,fun _=>0,0,0,0⟩:HD).cells 20) w1 W g from⟨setRow_heap _ _ _ _ _ (0,0) hZ,below_setRow hW hg _,HQ.out _ (below_setRow hW hg _)⟩
 have hbld:=fun W:World=>build_head W (hdOf l) s16
 have d16:(16:Int)<(n:Int):=by omega
 have P0n:=Lib.hid (show Bytes w1.drew (some ⟨bb,off,none⟩) l from(HB.out.below b1.out (Nat.le_refl _)).drew)
 have K0n:=Lib.hid (show Below w1.heap.size w1 w1.drew from(Below.refl w1.heap.size w1).drew)
 have K0a:=Lib.hid (show Below w1.heap.size w1 (w1.alloc (.cells Tryz.zeroCells126 126)).drew from((Below.refl w1.heap.size w1).alloc (Nat.le_refl _) _).drew)
 have P0a:=Lib.hid (show Bytes (w1.alloc (.cells Tryz.zeroCells126 126)).drew (some ⟨bb,off,none⟩) l from(HB.out.below b1.out (Nat.le_refl _)).below K0a.out (Nat.le_refl _))
 have Z0a:=Lib.hid (show(w1.alloc (.cells Tryz.zeroCells126 126)).drew.heap[w1.heap.size]? =some (.cells Tryz.zeroCells126 126 (0,0))from heap_alloc_new w1 _)
 have q0n:=HQ.out _ K0n.out
 have q0a:=HQ.out _ K0a.out
 have y0a:=HSt.out _ w1.heap.size (Nat.le_refl _) Z0a.out
 have Y0a:=Lib.hid (HQ2.out _ w1.heap.size (Nat.le_refl _) K0a.out Z0a.out)
 have r0a:=Y0a.out.2.2
 go_cut [4]from 14 to 27 (fun z wx=> ∃g,z= .pointer (some ⟨g,0,none⟩)∧Blk wx g ((⟨0,0,s16,(hdOf l).I,fun _=>0,0,0,0⟩:HD).cells 20) 126∧Below w1.heap.size w1 wx∧Hid (w1.heap.size≤g))
 case first=>
  go_region_held3 (fun W=>W.cell? ⟨bb,off+16,none⟩=some (.int .u8 s16)) (first|(with_reducible exact q0n)|(with_reducible exact q0a)|(with_reducible exact r0a)|(with_reducible exact q1n)|(with_reducible exact q1nA)|(with_reducible exact r1nA)|(with_reducible exact q1a0)|(with_reducible exact r1a0)|(with_reducible exact q2n)|(with_reducible exact q2nA)|(with_reducible exact r2nA)|(with_reducible exact q2a1)|(with_reducible exact r2a1)|(with_reducible exact q2a0)|(with_reducible exact r2a0)|(with_reducible exact q3n)|(with_reducible exact q3nA)|(with_reducible exact r3nA)|(with_reducible exact q3a2)|(with_reducible exact r3a2)|(with_reducible exact q3a0)|(with_reducible exact r3a0)|(with_reducible exact q3a1)|(with_reducible exact r3a1)|(with_reducible exact q4n)|(with_reducible exact q4nA)|(with_reducible exact r4nA)|(with_reducible exact q4a3)|(with_reducible exact r4a3)|(with_reducible exact q4a0)|(with_reducible exact r4a0)|(with_reducible exact q4a1)|(with_reducible exact r4a1)|(with_reducible exact q4a2)|(with_reducible exact r4a2)|go_keep) (first
   |(go_simp;go_at_call 179;(with_reducible refine(HI24.out _ P0n.out).mono ?_);rintro e n1 ⟨rfl,hb1n⟩;have K1n:=Lib.hid (K0n.out.trans (hb1n.mono K0n.out.size));have P1n:=Lib.hid ((HB.out.below b1.out (Nat.le_refl _)).below K1n.out (Nat.le_refl _));have q1n:=HQ.out _ K1n.out;have K1nA:=Lib.hid (show Below w1.heap.size w1 (n1.alloc (.cells Tryz.zeroCells126 126))from K1n.out.alloc K1n.out.size _);have P1nA:=Lib.hid ((HB.out.below b1.out (Nat.le_refl _)).below K1nA.out (Nat.le_refl _));have q1nA:=HQ.out _ K1nA.out;have Z1nA:=Lib.hid (show(n1.alloc (.cells Tryz.zeroCells126 126)).heap[n1.heap.size]? =some (.cells Tryz.zeroCells126 126 (0,0))from heap_alloc_new n1 _);have y1nA:=HSt.out _ _ K1n.out.size Z1nA.out;have Y1nA:=Lib.hid (HQ2.out _ _ K1n.out.size K1nA.out Z1nA.out);have r1nA:=Y1nA.out.2.2;clear hb1n)
   |(go_simp;go_at_call 179;(with_reducible refine(HI24.out _ P0a.out).mono ?_);rintro e a1_0 ⟨rfl,hb1a0⟩;have K1a0:=Lib.hid (K0a.out.trans (hb1a0.mono K0a.out.size));have P1a0:=Lib.hid ((HB.out.below b1.out (Nat.le_refl _)).below K1a0.out (Nat.le_refl _));have q1a0:=HQ.out _ K1a0.out;have Z1a0:=Lib.hid ((hb1a0.block _ (lt_of_heap Z0a.out)).trans Z0a.out);have y1a0:=HSt.out _ _ (Nat.le_refl _) Z1a0.out;have Y1a0:=Lib.hid (HQ2.out _ _ (Nat.le_refl _) K1a0.out Z1a0.out);have r1a0:=Y1a0.out.2.2;clear hb1a0)
   |(go_simp;go_at_call 179;(with_reducible refine(HI40.out _ P1n.out).mono ?_);rintro e n2 ⟨rfl,hb2n⟩;have K2n:=Lib.hid (K1n.out.trans (hb2n.mono K1n.out.size));have P2n:=Lib.hid ((HB.out.below b1.out (Nat.le_refl _)).below K2n.out (Nat.le_refl _));have q2n:=HQ.out _ K2n.out;have K2nA:=Lib.hid (show Below w1.heap.size w1 (n2.alloc (.cells Tryz.zeroCells126 126))from K2n.out.alloc K2n.out.size _);have P2nA:=Lib.hid ((HB.out.below b1.out (Nat.le_refl _)).below K2nA.out (Nat.le_refl _));have q2nA:=HQ.out _ K2nA.out;have Z2nA:=Lib.hid (show(n2.alloc (.cells Tryz.zeroCells126 126)).heap[n2.heap.size]? =some (.cells Tryz.zeroCells126 126 (0,0))from heap_alloc_new n2 _);have y2nA:=HSt.out _ _ K2n.out.size Z2nA.out;have Y2nA:=Lib.hid (HQ2.out _ _ K2n.out.size K2nA.out Z2nA.out);have r2nA:=Y2nA.out.2.2;clear hb2n)
   |(go_simp;go_at_call 179;(with_reducible refine(HI40.out _ P1nA.out).mono ?_);rintro e a2_1 ⟨rfl,hb2a1⟩;have K2a1:=Lib.hid (K1nA.out.trans (hb2a1.mono K1nA.out.size));have P2a1:=Lib.hid ((HB.out.below b1.out (Nat.le_refl _)).below K2a1.out (Nat.le_refl _));have q2a1:=HQ.out _ K2a1.out;have Z2a1:=Lib.hid ((hb2a1.block _ (lt_of_heap Z1nA.out)).trans Z1nA.out);have y2a1:=HSt.out _ _ (K1n.out.size) Z2a1.out;have Y2a1:=Lib.hid (HQ2.out _ _ (K1n.out.size) K2a1.out Z2a1.out);have r2a1:=Y2a1.out.2.2;clear hb2a1)
   |(go_simp;go_at_call 179;(with_reducible refine(HI40.out _ P1a0.out).mono ?_);rintro e a2_0 ⟨rfl,hb2a0⟩;have K2a0:=Lib.hid (K1a0.out.trans (hb2a0.mono K1a0.out.size));have P2a0:=Lib.hid ((HB.out.below b1.out (Nat.le_refl _)).below K2a0.out (Nat.le_refl _));have q2a0:=HQ.out _ K2a0.out;have Z2a0:=Lib.hid ((hb2a0.block _ (lt_of_heap Z1a0.out)).trans Z1a0.out);have y2a0:=HSt.out _ _ (Nat.le_refl _) Z2a0.out;have Y2a0:=Lib.hid (HQ2.out _ _ (Nat.le_refl _) K2a0.out Z2a0.out);have r2a0:=Y2a0.out.2.2;clear hb2a0)
   |(go_simp;go_at_call 179;(with_reducible refine(HI56.out _ P2n.out).mono ?_);rintro e n3 ⟨rfl,hb3n⟩;have K3n:=Lib.hid (K2n.out.trans (hb3n.mono K2n.out.size));have P3n:=Lib.hid ((HB.out.below b1.out (Nat.le_refl _)).below K3n.out (Nat.le_refl _));have q3n:=HQ.out _ K3n.out;have K3nA:=Lib.hid (show Below w1.heap.size w1 (n3.alloc (.cells Tryz.zeroCells126 126))from K3n.out.alloc K3n.out.size _);have P3nA:=Lib.hid ((HB.out.below b1.out (Nat.le_refl _)).below K3nA.out (Nat.le_refl _));have q3nA:=HQ.out _ K3nA.out;have Z3nA:=Lib.hid (show(n3.alloc (.cells Tryz.zeroCells126 126)).heap[n3.heap.size]? =some (.cells Tryz.zeroCells126 126 (0,0))from heap_alloc_new n3 _);have y3nA:=HSt.out _ _ K3n.out.size Z3nA.out;have Y3nA:=Lib.hid (HQ2.out _ _ K3n.out.size K3nA.out Z3nA.out);have r3nA:=Y3nA.out.2.2;clear hb3n)
   |(go_simp;go_at_call 179;(with_reducible refine(HI56.out _ P2nA.out).mono ?_);rintro e a3_2 ⟨rfl,hb3a2⟩;have K3a2:=Lib.hid (K2nA.out.trans (hb3a2.mono K2nA.out.size));have P3a2:=Lib.hid ((HB.out.below b1.out (Nat.le_refl _)).below K3a2.out (Nat.le_refl _));have q3a2:=HQ.out _ K3a2.out;have Z3a2:=Lib.hid ((hb3a2.block _ (lt_of_heap Z2nA.out)).trans Z2nA.out);have y3a2:=HSt.out _ _ (K2n.out.size) Z3a2.out;have Y3a2:=Lib.hid (HQ2.out _ _ (K2n.out.size) K3a2.out Z3a2.out);have r3a2:=Y3a2.out.2.2;clear hb3a2)
   |(go_simp;go_at_call 179;(with_reducible refine(HI56.out _ P2a0.out).mono ?_);rintro e a3_0 ⟨rfl,hb3a0⟩;have K3a0:=Lib.hid (K2a0.out.trans (hb3a0.mono K2a0.out.size));have P3a0:=Lib.hid ((HB.out.below b1.out (Nat.le_refl _)).below K3a0.out (Nat.le_refl _));have q3a0:=HQ.out _ K3a0.out;have Z3a0:=Lib.hid ((hb3a0.block _ (lt_of_heap Z2a0.out)).trans Z2a0.out);have y3a0:=HSt.out _ _ (Nat.le_refl _) Z3a0.out;have Y3a0:=Lib.hid (HQ2.out _ _ (Nat.le_refl _) K3a0.out Z3a0.out);have r3a0:=Y3a0.out.2.2;clear hb3a0)
   |(go_simp;go_at_call 179;(with_reducible refine(HI56.out _ P2a1.out).mono ?_);rintro e a3_1 ⟨rfl,hb3a1⟩;have K3a1:=Lib.hid (K2a1.out.trans (hb3a1.mono K2a1.out.size));have P3a1:=Lib.hid ((HB.out.below b1.out (Nat.le_refl _)).below K3a1.out (Nat.le_refl _));have q3a1:=HQ.out _ K3a1.out;have Z3a1:=Lib.hid ((hb3a1.block _ (lt_of_heap Z2a1.out)).trans Z2a1.out);have y3a1:=HSt.out _ _ (K1n.out.size) Z3a1.out;have Y3a1:=Lib.hid (HQ2.out _ _ (K1n.out.size) K3a1.out Z3a1.out);have r3a1:=Y3a1.out.2.2;clear hb3a1)
   |(go_simp;go_at_call 179;(with_reducible refine(HI72.out _ P3n.out).mono ?_);rintro e n4 ⟨rfl,hb4n⟩;have K4n:=Lib.hid (K3n.out.trans (hb4n.mono K3n.out.size));have P4n:=Lib.hid ((HB.out.below b1.out (Nat.le_refl _)).below K4n.out (Nat.le_refl _));have q4n:=HQ.out _ K4n.out;have K4nA:=Lib.hid (show Below w1.heap.size w1 (n4.alloc (.cells Tryz.zeroCells126 126))from K4n.out.alloc K4n.out.size _);have P4nA:=Lib.hid ((HB.out.below b1.out (Nat.le_refl _)).below K4nA.out (Nat.le_refl _));have q4nA:=HQ.out _ K4nA.out;have Z4nA:=Lib.hid (show(n4.alloc (.cells Tryz.zeroCells126 126)).heap[n4.heap.size]? =some (.cells Tryz.zeroCells126 126 (0,0))from heap_alloc_new n4 _);have y4nA:=HSt.out _ _ K4n.out.size Z4nA.out;have Y4nA:=Lib.hid (HQ2.out _ _ K4n.out.size K4nA.out Z4nA.out);have r4nA:=Y4nA.out.2.2;clear hb4n)
   |(go_simp;go_at_call 179;(with_reducible refine(HI72.out _ P3nA.out).mono ?_);rintro e a4_3 ⟨rfl,hb4a3⟩;have K4a3:=Lib.hid (K3nA.out.trans (hb4a3.mono K3nA.out.size));have P4a3:=Lib.hid ((HB.out.below b1.out (Nat.le_refl _)).below K4a3.out (Nat.le_refl _));have q4a3:=HQ.out _ K4a3.out;have Z4a3:=Lib.hid ((hb4a3.block _ (lt_of_heap Z3nA.out)).trans Z3nA.out);have y4a3:=HSt.out _ _ (K3n.out.size) Z4a3.out;have Y4a3:=Lib.hid (HQ2.out _ _ (K3n.out.size) K4a3.out Z4a3.out);have r4a3:=Y4a3.out.2.2;clear hb4a3)
   |(go_simp;go_at_call 179;(with_reducible refine(HI72.out _ P3a0.out).mono ?_);rintro e a4_0 ⟨rfl,hb4a0⟩;have K4a0:=Lib.hid (K3a0.out.trans (hb4a0.mono K3a0.out.size));have P4a0:=Lib.hid ((HB.out.below b1.out (Nat.le_refl _)).below K4a0.out (Nat.le_refl _));have q4a0:=HQ.out _ K4a0.out;have Z4a0:=Lib.hid ((hb4a0.block _ (lt_of_heap Z3a0.out)).trans Z3a0.out);have y4a0:=HSt.out _ _ (Nat.le_refl _) Z4a0.out;have Y4a0:=Lib.hid (HQ2.out _ _ (Nat.le_refl _) K4a0.out Z4a0.out);have r4a0:=Y4a0.out.2.2;clear hb4a0)
   |(go_simp;go_at_call 179;(with_reducible refine(HI72.out _ P3a1.out).mono ?_);rintro e a4_1 ⟨rfl,hb4a1⟩;have K4a1:=Lib.hid (K3a1.out.trans (hb4a1.mono K3a1.out.size));have P4a1:=Lib.hid ((HB.out.below b1.out (Nat.le_refl _)).below K4a1.out (Nat.le_refl _));have q4a1:=HQ.out _ K4a1.out;have Z4a1:=Lib.hid ((hb4a1.block _ (lt_of_heap Z3a1.out)).trans Z3a1.out);have y4a1:=HSt.out _ _ (K1n.out.size) Z4a1.out;have Y4a1:=Lib.hid (HQ2.out _ _ (K1n.out.size) K4a1.out Z4a1.out);have r4a1:=Y4a1.out.2.2;clear hb4a1)
   |(go_simp;go_at_call 179;(with_reducible refine(HI72.out _ P3a2.out).mono ?_);rintro e a4_2 ⟨rfl,hb4a2⟩;have K4a2:=Lib.hid (K3a2.out.trans (hb4a2.mono K3a2.out.size));have P4a2:=Lib.hid ((HB.out.below b1.out (Nat.le_refl _)).below K4a2.out (Nat.le_refl _));have q4a2:=HQ.out _ K4a2.out;have Z4a2:=Lib.hid ((hb4a2.block _ (lt_of_heap Z3a2.out)).trans Z3a2.out);have y4a2:=HSt.out _ _ (K2n.out.size) Z4a2.out;have Y4a2:=Lib.hid (HQ2.out _ _ (K2n.out.size) K4a2.out Z4a2.out);have r4a2:=Y4a2.out.2.2;clear hb4a2)
   |fail)
  all_goals
   go_wp2_with fail
   go_meet
   case rel=>first|exact⟨_,rfl,Y4a2.out.1,Y4a2.out.2.1,Lib.hid (K2n.out.size)⟩|exact⟨_,rfl,Y4a1.out.1,Y4a1.out.2.1,Lib.hid (K1n.out.size)⟩|exact⟨_,rfl,Y4a0.out.1,Y4a0.out.2.1,Lib.hid (Nat.le_refl _)⟩|exact⟨_,rfl,Y4a3.out.1,Y4a3.out.2.1,Lib.hid (K3n.out.size)⟩|exact⟨_,rfl,Y4nA.out.1,Y4nA.out.2.1,Lib.hid (K4n.out.size)⟩|exact⟨_,rfl,Y3a1.out.1,Y3a1.out.2.1,Lib.hid (K1n.out.size)⟩|exact⟨_,rfl,Y3a0.out.1,Y3a0.out.2.1,Lib.hid (Nat.le_refl _)⟩|exact⟨_,rfl,Y3a2.out.1,Y3a2.out.2.1,Lib.hid (K2n.out.size)⟩|exact⟨_,rfl,Y3nA.out.1,Y3nA.out.2.1,Lib.hid (K3n.out.size)⟩|exact⟨_,rfl,Y2a0.out.1,Y2a0.out.2.1,Lib.hid (Nat.le_refl _)⟩|exact⟨_,rfl,Y2a1.out.1,Y2a1.out.2.1,Lib.hid (K1n.out.size)⟩|exact⟨_,rfl,Y2nA.out.1,Y2nA.out.2.1,Lib.hid (K2n.out.size)⟩|exact⟨_,rfl,Y1a0.out.1,Y1a0.out.2.1,Lib.hid (Nat.le_refl _)⟩|exact⟨_,rfl,Y1nA.out.1,Y1nA.out.2.1,Lib.hid (K1n.out.size)⟩|exact⟨_,rfl,Y0a.out.1,Y0a.out.2.1,Lib.hid (Nat.le_refl _)⟩
 case rest=>
  obtain⟨g,rfl,hR,hB,hg⟩:=hcut
  have R2:=Lib.hid hR
  have B2:=Lib.hid hB
  have G4:=Lib.hid fun(p:Nat) (hp:p+4≤n) (W:World) (hW:Bytes W (some ⟨bb,off,none⟩) l)=>show Calls Tryz.prog 164 #[.slice (some ⟨bb,off,none⟩) n c,.int .i64 (p:Int),.int .i64 4] W fun e w'=>e= .returned (.tuple #[.int .u64 (u4 l p),.bool true])∧W=w' by
   subst hL
   exact rget_yes _ l c p 4 W (by omega) (by unfold fits isW;simp;omega) hW
  have hBc:=Lib.hid ((HB.out.below b1.out (Nat.le_refl _)).below hB (Nat.le_refl _))
  have HB1:=Lib.hid (HB.out.below b1.out (Nat.le_refl _))
  clear hR hB HI24 HI40 HI56 HI72 HQ HSt HQ2 hbld K16 P0n K0n K0a P0a Z0a q0n q0a y0a Y0a r0a HCell
  have G8a:=Lib.hid (show Calls Tryz.prog 164 #[.slice (some ⟨bb,off,none⟩) n c,.int .i64 8,.int .i64 4] wc _ from G4.out 8 (by omega) wc hBc.out)
  have G12a:=Lib.hid (show Calls Tryz.prog 164 #[.slice (some ⟨bb,off,none⟩) n c,.int .i64 12,.int .i64 4] wc _ from G4.out 12 (by omega) wc hBc.out)
  have U8:=u4_bd hb.1 8
  have U12:=u4_bd hb.1 12
  have x0:wc.cell? ⟨g,0,none⟩=some (.int .u32 0):=R2.out.cell (HD.get _ 20 0 (by decide))
  have x1:wc.cell? ⟨g,1,none⟩=some (.int .u32 0):=R2.out.cell (HD.get _ 20 1 (by decide))
  have f0:=R2.out.frozen 0
  have f1:=R2.out.frozen 1
  have HRa:=Lib.hid (show((((⟨0,0,s16,(hdOf l).I,fun _=>0,0,0,0⟩:HD).cells 20).set 0 (.int .u32 (u4 l 8))).set 1 (.int .u32 (u4 l 12)))=((⟨u4 l 8,u4 l 12,s16,(hdOf l).I,fun _=>0,0,0,0⟩:HD).cells 20)by
   rw[set_cp _ 20 0 _ rfl,set_ic _ 20 1 _ rfl])
  generalize hc4:u4 l 8=cp at*
  generalize hc12:u4 l 12=ic at*
  have HCp:=Lib.hid hc4
  have HIc:=Lib.hid hc12
  clear hc4 hc12
  go_upto_region 5 with(first
   |(go_at_call 164;((with_reducible refine G8a.out.mono ?_);rintro e w' ⟨rfl,rfl⟩))
   |(go_at_call 164;((with_reducible refine G12a.out.mono ?_);rintro e w' ⟨rfl,rfl⟩))
   |fail)
  have R5:=Lib.hid (show Blk ((wc.setCell ⟨g,0,none⟩ (.int .u32 cp)).setCell ⟨g,1,none⟩ (.int .u32 ic)) g ((⟨cp,ic,s16,(hdOf l).I,fun _=>0,0,0,0⟩:HD).cells 20) 126 by rw[←HRa.out];exact(R2.out.set_ 0 _).set_ 1 _)
  have B5:=Lib.hid (show Below w1.heap.size w1 ((wc.setCell ⟨g,0,none⟩ (.int .u32 cp)).setCell ⟨g,1,none⟩ (.int .u32 ic))from(B2.out.setCell hg.out _).setCell hg.out _)
  clear G8a G12a x0 x1 f0 f1 HRa R2 B2 hBc
  generalize (wc.setCell ⟨g,0,none⟩ (.int .u32 cp)).setCell ⟨g,1,none⟩ (.int .u32 ic)=w5 at*
  go_wp2_with fail
  have HS:=Lib.hid fun(k:Nat) (hk:k<20)=>show((⟨cp,ic,s16,(hdOf l).I,fun i=>if i<k then Ob.u8 l (88+8*i)else 0,0,0,0⟩:HD).cells 20).set (67+k) (.int .u64 (Ob.u8 l (88+8*k)))=((⟨cp,ic,s16,(hdOf l).I,fun i=>if i<k+1 then Ob.u8 l (88+8*i)else 0,0,0,0⟩:HD).cells 20)from
   cells_set _ _ 20 (67+k) _ (by omega) (by unfold HD.at_;rw[if_neg (by omega),if_neg (by omega),if_pos (by omega),show 67+k-67=k by omega];simp) (fun i hi hne=>by
    unfold HD.at_
    by_cases h3:i<3
    ·rw[if_pos h3,if_pos h3]
    rw[if_neg h3,if_neg h3]
    by_cases h4:i<67
    ·rw[if_pos h4,if_pos h4]
    rw[if_neg h4,if_neg h4]
    by_cases h5:i<67+20
    ·rw[if_pos h5,if_pos h5]
     dsimp only
     by_cases h6:i-67<k
     ·rw[if_pos h6,if_pos (by omega)]
     ·rw[if_neg h6,if_neg (by omega)]
    ·rw[if_neg h5,if_neg h5])
  have HU:=Lib.hid fun(k:Nat) (hk:k≤22) (W:World) (hW:Bytes W (some ⟨bb,off,none⟩) l)=>show Calls Tryz.prog 180 #[.slice (some ⟨bb,off,none⟩) n c,.int .u64 (88+8*(k:Int))] W fun e w'=>e= .returned (.int .u64 (Ob.u8 l (88+8*k)))∧W=w' by
   rw[show(88+8*(k:Int))=((88+8*k:Nat):Int)by omega]
   exact ru_any _ l n c (88+8*k) W hW hL hn (by omega)
  go_loopw [9] (fun i wr=> ∃k:Nat,k≤20∧i= .int .i64 (k:Int)∧Hid (Blk wr g ((⟨cp,ic,s16,(hdOf l).I,fun i=>if i<k then Ob.u8 l (88+8*i)else 0,0,0,0⟩:HD).cells 20) 126)∧Hid (Below w1.heap.size w1 wr)) (fun i _=>20-(intOf i).toNat)
  case atStart=>exact⟨0,Nat.zero_le _,rfl,by simpa using R5,B5⟩
  case round=>
   obtain⟨k,hk,rfl,hR,hB⟩:=hrel
   by_cases hlt:k<20
   ·have hst:=Lib.hid (HS.out k hlt)
    have HBr:=Lib.hid (HB1.out.below hB.out (Nat.le_refl _))
    have HUk:=Lib.hid (HU.out k (by omega) wr HBr.out)
    have ck:=HD.nums_at hR.out k hlt
    have fk:=hR.out.frozen (67+k)
    generalize Ob.u8 l (88+8*k)=x at*
    go_wp2_with(go_at_call 180;((with_reducible refine HUk.out.mono ?_);rintro e w' ⟨rfl,rfl⟩))
    go_roundw
    case rel=>exact⟨k+1,by omega,by go_num,Lib.hid (by rw[←hst.out];exact hR.out.set_ (67+k) _),Lib.hid (hB.out.setCell hg.out _)⟩
    case measure=>simp[intOf];omega
   ·obtain rfl:k=20:=by omega
    rename World=>w6
    have HB6:=Lib.hid (HB1.out.below hB.out (Nat.le_refl _))
    have G256:=Lib.hid (show Calls Tryz.prog 164 #[.slice (some ⟨bb,off,none⟩) n c,.int .i64 256,.int .i64 4] w6 _ from G4.out 256 (by omega) w6 HB6.out)
    have G260:=Lib.hid (show Calls Tryz.prog 164 #[.slice (some ⟨bb,off,none⟩) n c,.int .i64 260,.int .i64 4] w6 _ from G4.out 260 (by omega) w6 HB6.out)
    have U264:=Lib.hid (show Calls Tryz.prog 180 #[.slice (some ⟨bb,off,none⟩) n c,.int .u64 264] w6 _ from HU.out 22 (by decide) w6 HB6.out)
    have U256:=u4_bd hb.1 256
    have U260:=u4_bd hb.1 260
    have x87:w6.cell? ⟨g,87,none⟩=some (.int .u32 0):=hR.out.cell (HD.get_ta _ 20)
    have x88:w6.cell? ⟨g,88,none⟩=some (.int .u32 0):=hR.out.cell (HD.get_ti _ 20)
    have x89:w6.cell? ⟨g,89,none⟩=some (.int .u64 0):=hR.out.cell (HD.get_te _ 20)
    have f87:=hR.out.frozen 87
    have f88:=hR.out.frozen 88
    have f89:=hR.out.frozen 89
    have HFin:=Lib.hid (show(((((⟨cp,ic,s16,(hdOf l).I,fun i=>if i<20 then Ob.u8 l (88+8*i)else 0,0,0,0⟩:HD).cells 20).set 87 (.int .u32 (u4 l 256))).set 88 (.int .u32 (u4 l 260))).set 89 (.int .u64 (Ob.u8 l (88+8*22))))=(hdOf l).cells 20 by
     rw[set_ta _ 20 87 _ rfl,set_ti _ 20 88 _ rfl,set_te _ 20 89 _ rfl]
     apply at_cong
     intro i hi
     unfold HD.at_
     by_cases h3:i<3
     ·rw[if_pos h3,if_pos h3,←HCp.out,←HIc.out,←HS16.out];rfl
     rw[if_neg h3,if_neg h3]
     by_cases h4:i<67
     ·rw[if_pos h4,if_pos h4]
     rw[if_neg h4,if_neg h4]
     by_cases h5:i<67+20
     ·rw[if_pos h5,if_pos h5]
      show Value.int .u64 (if i-67<20 then _ else 0)=_
      rw[if_pos (by omega)];rfl
     rw[if_neg h5,if_neg h5]
     rfl)
    generalize u4 l 256=ta at*
    generalize u4 l 260=ti at*
    generalize Ob.u8 l (88+8*22)=te at*
    clear R5 B5 HS
    go_upto_region 12 with(first
     |(go_at_call 164;((with_reducible refine G256.out.mono ?_);rintro e w' ⟨rfl,rfl⟩))
     |(go_at_call 164;((with_reducible refine G260.out.mono ?_);rintro e w' ⟨rfl,rfl⟩))
     |(go_at_call 180;((with_reducible refine U264.out.mono ?_);rintro e w' ⟨rfl,rfl⟩))
     |fail)
    have R9:=Lib.hid (show Blk (((w6.setCell ⟨g,87,none⟩ (.int .u32 ta)).setCell ⟨g,88,none⟩ (.int .u32 ti)).setCell ⟨g,89,none⟩ (.int .u64 te)) g ((hdOf l).cells 20) 126 by rw[←HFin.out];exact((hR.out.set_ 87 _).set_ 88 _).set_ 89 _)
    have B9:=Lib.hid (show Below w1.heap.size w1 (((w6.setCell ⟨g,87,none⟩ (.int .u32 ta)).setCell ⟨g,88,none⟩ (.int .u32 ti)).setCell ⟨g,89,none⟩ (.int .u64 te))from((hB.out.setCell hg.out _).setCell hg.out _).setCell hg.out _)
    clear x87 x88 x89 f87 f88 f89 HFin hR hB G256 G260 U264 HB6
    generalize ((w6.setCell ⟨g,87,none⟩ (.int .u32 ta)).setCell ⟨g,88,none⟩ (.int .u32 ti)).setCell ⟨g,89,none⟩ (.int .u64 te)=w9 at*
    have HB9:=Lib.hid (HB1.out.below B9.out (Nat.le_refl _))
    have HUz:=Lib.hid (show ∀W:World,Bytes W (some ⟨bb,off,none⟩) l→Calls Tryz.prog 180 #[.slice (some ⟨bb,off,none⟩) n c,.int .u64 248] W fun e w'=>e= .returned (.int .u64 (Ob.u8 l 248))∧W=w' from fun W hW=>HU.out 20 (by decide) W hW)
    have Z9:=Lib.hid ((B9.out.block w.heap.size (by rw[s1.out];exact Nat.lt_succ_self _)).trans Z1.out)
    have hsto:=store_head w9.drew w.heap.size _ ((hdOf l).cells 20).toArray Z9.out rzeros_size (rcells_info _) (HD.one _ 20)
    have hne:g≠w.heap.size:=by have:=hg.out;rw[s1.out]at this;omega
    have q9:=(show World.rangeAt w9.drew g 0 ((hdOf l).cells 20)from fun j v hj=>by rw[Nat.zero_add];exact R9.out.cell hj)
    have B10:=Lib.hid (show Below w.heap.size w (w9.drew.setRow w.heap.size ((hdOf l).cells 20).toArray)from below_setRow ((b1.out.trans (B9.out.mono (by rw[s1.out];exact Nat.le_succ _))).drew) (Nat.le_refl _) _)
    have q10:=(show World.rangeAt (w9.drew.setRow w.heap.size ((hdOf l).cells 20).toArray) g 0 ((hdOf l).cells 20)from fun j v hj=>by rw[Nat.zero_add,cell_setRow_other _ _ _ _ hne];exact R9.out.cell hj)
    have HBd:=Lib.hid (show Bytes w9.drew (some ⟨bb,off,none⟩) l from HB9.out.drew)
    have hbb:bb≠w.heap.size:=Nat.ne_of_lt HLt.out
    have HBe:=Lib.hid (show Bytes (w9.drew.setRow w.heap.size ((hdOf l).cells 20).toArray) (some ⟨bb,off,none⟩) l from⟨hb.1,fun i hi=>by
     obtain⟨b3,o3,e3,h3,h4⟩:=HBd.out.2 i hi
     refine⟨b3,o3,e3,by rw[setRow_size];exact h3,?_⟩
     injection e3 with e3
     injection e3 with e3 e4
     subst e3
     rw[cell_setRow_other _ _ _ _ hbb]
     exact h4⟩)
    have R10:=Lib.hid (show(w9.drew.setRow w.heap.size ((hdOf l).cells 20).toArray).heap[w.heap.size]? =some (.cells ((hdOf l).cells 20).toArray 126 (0,0))from setRow_heap _ w.heap.size _ _ _ (0,0) Z9.out)
    generalize hdp:Ob.u8 l 248=dp at*
    have HDp:=Lib.hid hdp
    clear hdp
    refine wp_region_noPanic ?_
    refine wp_region_held_drew (S:=fun W:World=>W.rangeAt g 0 ((hdOf l).cells 20)) (by kernel_rfl) (by exact q9) (fun hHeld=>?_)
    refine tk (i:=0) (oi:=⟨some 75,_,_,_,_,_⟩) rfl (yieldsIf_load_mid (by rfl) _ _ rfl _ _ rfl _ _ (fun _ h=>h) Tryz.underlying126 rfl (rcells_len _)) ?_
    try simp only[Act.put,sA,sZ,sS]
    refine tk (i:=1) (oi:=⟨some 76,_,_,_,_,_⟩) (v:=?_) rfl (Or.inl ⟨by rfl,?_⟩) ?_
    rotate_left
    ·intro W hSw;go_simp;try (with_reducible rfl)
    try simp only[Act.put,sA,sZ,sS]
    refine wpAnyH_ready (rs:=[2]) (by kernel_rfl) (by simp) ?_
    refine AllReadyH.cons (o:=⟨some 77,_,_,_,_,_⟩) rfl (fun K hK=>?_) AllReadyH.nil
    go_simp
    ((with_reducible refine(HUz.out _ HBd.out).mono ?_);rintro e w' ⟨rfl,rfl⟩)
    try go_wp2_with fail
    refine hK.out _ _ (by exact q9) (fun hHeld=>?_)
    clear hK K
    try simp only[Act.put,sA,sZ,sS]
    refine wpAnyH_ready (rs:=[3]) (by kernel_rfl) (by simp) ?_
    refine AllReadyH.cons (o:=⟨none,_,_,_,_,_⟩) rfl (fun K hK=>?_) AllReadyH.nil
    go_simp
    skip
    try go_wp2_with fail
    refine hK.out _ _ (by exact q10) (fun hHeld=>?_)
    clear hK K
    try simp only[Act.put,sA,sZ,sS]
    refine tk (i:=4) (oi:=⟨some 3,_,_,_,_,_⟩) (v:=?_) rfl (Or.inl ⟨by rfl,?_⟩) ?_
    rotate_left
    ·intro W hSw;go_simp;try (with_reducible rfl)
    try simp only[Act.put,sA,sZ,sS]
    refine wpAnyH_done (by kernel_rfl) ?_ _
    refine NoPanic.normal ?_
    go_wp2_with fail
    refine bodyPost_ret (v:= .tuple #[.agg ((hdOf l).cells 20).toArray,.int .u64 dp]) (by exact res_rowG Tryz.results125 _ _ w.heap.size 126 _ (0,0) _ _ rfl rfl R10.out Tryz.underlying126 rfl (rcells_info _)) rfl ?_
    exact⟨by rw[HDp.out],B10.out⟩
end Gq
end Go.Proofs.YtjecmgkmcfkcjaaGreat
