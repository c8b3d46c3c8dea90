/-
  Texts beneath.
-/
import Derived.Test.YteaikbodkgjkdaaGreatQl9
set_option linter.unusedVariables false
set_option linter.unusedSimpArgs false
set_option maxRecDepth 100000
set_option maxHeartbeats 8000000
open Go.ChangeShapes Go.WideShapes Go.ChangeAt Go.RowKit
namespace Go.Proofs.YteaikbodkgjkdaaGreat
namespace Go1
open Bytes8 Blk8 Own8 OwnE Ga Gb Gi Gj Gk Gm
def magicB (l:List Int):Bool:=(strOfNums (l.take 8)).toList== [76,80,75,83,72,72,82,72]
def hcode (l:List Int)(n:Nat):Int:=if n<272 then 22 else if magicB l=false then 6 else fcode (hdOf l) n
def rhd (l:List Int)(n:Nat):HD:=if hcode l n=0 then hdOf l else hd0
abbrev HTold (h:HD)(c:Int)(w:World)(e:Ending)(w':World):Prop:=e= .returned (.tuple #[.agg (h.cells 21).toArray,.int .i64 c])∧Below w.heap.size w w'
theorem aA5 {w:World}{A:Option Addr}{l:List Int}(g:Bytes w A l)(k:Nat):Bytes w A (l.take k):=⟨g.1.take k,fun i hi=>by
 have f:i<k∧i<l.length:=by simp at hi;omega
 obtain⟨b,d,e,c,a⟩:=g.2 i f.2
 refine⟨b,d,e,c,?_⟩
 rw[a]
 simp[yD,List.getElem?_take_of_lt f.1]⟩
attribute [local irreducible] HD.cells wpList Code.wp
theorem aI6 (A:Option Addr)(l:List Int)(n c:Nat)(w:World)(e:Bytes w A l)(m:l.length=n)(f:272≤n)(p:n≤c)(a:magicB l=false):
 Calls Tryz.prog 80 #[.slice A n c] w (HTold hd0 6 w):=by
 have o: ¬(n:Int)<272:=by omega
 go_enter Tryz.func80,Tryz.ntmps80
 go_upto_region 1 with fail
 have b:=yH ((yB w.heap.size w).alloc (yR _) (.cells Tryz.zeroCells165 165))
 have g:=yH (heap_alloc_new w (.cells Tryz.zeroCells165 165))
 generalize w.alloc (.cells Tryz.zeroCells165 165)=w1 at*
 have d:(l.take 8).length=8:=by simp;omega
 have i:=(aA5 (e.below b.out (yR _)) 8).string c 8 d
 have k:(!(strOfNums (l.take 8)).toList== [76,80,75,83,72,72,82,72])=true:=by unfold magicB at a;rw[a];rfl
 generalize strOfNums (l.take 8)=S at*
 have j:(8:Int)≤(c:Int):=by omega
 clear e d a
 go_wp2_with(first
  |((with_reducible apply aAb 14);refine aAh rfl 165 rfl _ aDj ?_)
  |((with_reducible apply aAa (.tmp 2) (.tmp 14));refine wpList_store_row rfl 165 (.tmp 2) (.tmp 14) rfl w.heap.size (hd0.cells 21).toArray rfl rfl 165 Tryz.zeroCells165 g.out (aAf _) aAB (HD.one _ 21) ?_))
 refine bodyPost_ret (v:= .tuple #[.agg (hd0.cells 21).toArray,.int .i64 6]) (by exact aAq Tryz.results80 _ _ w.heap.size 165 _ (0,0) _ _ rfl rfl (setRow_heap _ _ _ _ _ (0,0) g.out) Tryz.underlying165 rfl (aAf _)) rfl ?_
 exact⟨rfl,below_setRow b.out (yR _) _⟩
theorem aI7 (A:Option Addr)(l:List Int)(n c:Nat)(w:World)(m:Bytes w A l)(C:l.length=n)(f:272≤n)(E:n≤1000000)(H:n≤c)(p:magicB l=true)(cd:Int)(g:fcode (hdOf l) n=cd):
 Calls Tryz.prog 80 #[.slice A n c] w (HTold (if cd=0 then hdOf l else hd0) cd w):=by
 have J: ¬(n:Int)<272:=by omega
 have I:=yH fun(W:World) (hW:Bytes W A l)=>aMa A l n c W hW C f E H
 have s:=yH fun(W:World)=>aMb (hdOf l) (aDk m.1 21) (n:Int) (by omega) W
 rw[g]at s
 go_enter Tryz.func80,Tryz.ntmps80
 go_upto_region 1 with fail
 have r:=yH ((yB w.heap.size w).alloc (yR _) (.cells Tryz.zeroCells165 165))
 have D:=yH (heap_alloc_new w (.cells Tryz.zeroCells165 165))
 have y:=yH (show(w.alloc (.cells Tryz.zeroCells165 165)).heap.size=w.heap.size+1 by simp)
 generalize w.alloc (.cells Tryz.zeroCells165 165)=w1 at*
 have u:(l.take 8).length=8:=by simp;omega
 have b:=yH (m.below r.out (yR _))
 have o:=(aA5 b.out 8).string c 8 u
 have G:(!(strOfNums (l.take 8)).toList== [76,80,75,83,72,72,82,72])=false:=by unfold magicB at p;rw[p];rfl
 generalize strOfNums (l.take 8)=S at*
 have B:(8:Int)≤(c:Int):=by omega
 clear m u p g
 go_upto_region 6 with(first
  |(go_at_call 119;((with_reducible refine(I.out _ b.out).mono ?_);rintro e w2 ⟨rfl,d⟩;have q:=yH d;clear d))
  |((with_reducible apply aAa (.tmp 4) (.tmp 16));refine wpList_store_row rfl 165 (.tmp 4) (.tmp 16) rfl w2.heap.size ((hdOf l).cells 21).toArray rfl rfl 165 Tryz.zeroCells165 (heap_alloc_new w2 _) (aAf _) aAB (HD.one _ 21) ?_))
 have k:=yH (show Blk ((w2.alloc (.cells Tryz.zeroCells165 165)).setRow w2.heap.size ((hdOf l).cells 21).toArray) w2.heap.size ((hdOf l).cells 21) 165 from setRow_heap _ _ _ _ _ (0,0) (heap_alloc_new w2 _))
 have x:=yH (show Below w1.heap.size w1 ((w2.alloc (.cells Tryz.zeroCells165 165)).setRow w2.heap.size ((hdOf l).cells 21).toArray)from below_setRow (q.out.alloc q.out.size _) q.out.size _)
 generalize (w2.alloc (.cells Tryz.zeroCells165 165)).setRow w2.heap.size ((hdOf l).cells 21).toArray=w3 at*
 clear o G
 go_upto_region 7 with(first
  |((with_reducible apply aAb 17);refine wpList_load_row rfl 165 (.tmp 4) rfl w2.heap.size rfl 165 ((hdOf l).cells 21).toArray (0,0) _ k.out Tryz.underlying165 rfl (aAf _) ?_)
  |(go_at_call 120;((with_reducible refine(s.out _).mono ?_);rintro e w4 ⟨rfl,a⟩;have F:=yH (k.out.below a k.out.lt);have z:=yH (x.out.trans (a.mono x.out.size));clear a)))
 have i:=yH ((z.out.block w.heap.size (by rw[y.out];exact Nat.lt_succ_self _)).trans D.out)
 have t:=yH (r.out.trans (z.out.mono (by rw[y.out];exact Nat.le_succ _)))
 by_cases j:cd=0
 ·rw[if_pos j]
  subst j
  go_wp2_with(first
   |((with_reducible apply aAb 26);refine wpList_load_row rfl 165 (.tmp 4) rfl w2.heap.size rfl 165 ((hdOf l).cells 21).toArray (0,0) _ F.out Tryz.underlying165 rfl (aAf _) ?_)
   |((with_reducible apply aAa (.tmp 2) (.tmp 26));refine wpList_store_row rfl 165 (.tmp 2) (.tmp 26) rfl w.heap.size ((hdOf l).cells 21).toArray rfl rfl 165 Tryz.zeroCells165 i.out (aAf _) aAB (HD.one _ 21) ?_))
  refine bodyPost_ret (v:= .tuple #[.agg ((hdOf l).cells 21).toArray,.int .i64 0]) (by exact aAq Tryz.results80 _ _ w.heap.size 165 _ (0,0) _ _ rfl rfl (setRow_heap _ _ _ _ _ (0,0) i.out) Tryz.underlying165 rfl (aAf _)) rfl ?_
  exact⟨rfl,below_setRow t.out (yR _) _⟩
 ·rw[if_neg j]
  have L:(cd !=0)=true:=by simp[j]
  go_wp2_with(first
   |((with_reducible apply aAb 24);refine aAh rfl 165 rfl _ aDj ?_)
   |((with_reducible apply aAa (.tmp 2) (.tmp 24));refine wpList_store_row rfl 165 (.tmp 2) (.tmp 24) rfl w.heap.size (hd0.cells 21).toArray rfl rfl 165 Tryz.zeroCells165 i.out (aAf _) aAB (HD.one _ 21) ?_))
  refine bodyPost_ret (v:= .tuple #[.agg (hd0.cells 21).toArray,.int .i64 cd]) (by exact aAq Tryz.results80 _ _ w.heap.size 165 _ (0,0) _ _ rfl rfl (setRow_heap _ _ _ _ _ (0,0) i.out) Tryz.underlying165 rfl (aAf _)) rfl ?_
  exact⟨rfl,below_setRow t.out (yR _) _⟩
theorem aBK (A:Option Addr)(l:List Int)(n c:Nat)(w:World)(e:Bytes w A l)(d:l.length=n)(g:n≤1000000)(f:n≤c):
 Calls Tryz.prog 80 #[.slice A n c] w (HTold (rhd l n) (hcode l n) w):=by
 unfold rhd
 by_cases a:n<272
 ·rw[show hcode l n=22 from if_pos a,if_neg (by decide)]
  exact read_short A n c w a
 by_cases h2:magicB l=false
 ·rw[show hcode l n=6 by unfold hcode;rw[if_neg a,if_pos h2],if_neg (by decide)]
  exact aI6 A l n c w e d (by omega) f h2
 ·have b:magicB l=true:=by simpa using h2
  exact aI7 A l n c w e d (by omega) g f b _ (by unfold hcode;rw[if_neg a,if_neg h2])
end Go1
namespace Gp
open Bytes8 Blk8 Own8 OwnE Ob Ga Gb Gj
def id16 (l:List Int)(p:Nat):List Value:=(List.range 16).map fun i=> .int .u8 (l.getD (p+i) 0)
def id16k (l:List Int)(p k:Nat):List Value:=(List.range 16).map fun i=> .int .u8 (if i<k then l.getD (p+i) 0 else 0)
theorem aDV (l:List Int)(p k:Nat):(id16k l p k).length=16:=by simp[id16k]
theorem aG8 (l:List Int)(p:Nat):id16k l p 16=id16 l p:=by
 unfold id16k id16
 apply List.map_congr_left
 intro i a
 rw[if_pos (List.mem_range.1 a)]
theorem aCr (l:List Int)(p k i:Nat)(a:i<16):(id16k l p k)[i]? =some (.int .u8 (if i<k then l.getD (p+i) 0 else 0)):=by simp[id16k,a]
theorem aJ9 (l:List Int)(p k:Nat)(d:k<16):(id16k l p k).set k (.int .u8 (l.getD (p+k) 0))=id16k l p (k+1):=by
 apply List.ext_getElem?
 intro i
 rw[List.getElem?_set]
 by_cases a:i<16
 ·by_cases b:k=i
  ·subst b
   rw[if_pos rfl,if_pos (by rw[aDV];exact d),aCr _ _ _ _ a,if_pos (Nat.lt_succ_self _)]
  ·rw[if_neg b,aCr _ _ _ _ a,aCr _ _ _ _ a]
   by_cases c:i<k
   ·rw[if_pos c,if_pos (by omega)]
   ·rw[if_neg c,if_neg (by omega)]
 ·rw[if_neg (by omega),List.getElem?_eq_none (by rw[aDV];omega),List.getElem?_eq_none (by rw[aDV];omega)]
theorem aMp (l:List Int)(p:Nat):(id16 l p).toArray.all (·.oneCell')=true:=by
 rw[Array.all_eq_true_iff_forall_mem]
 intro x a
 simp only[id16,List.mem_toArray,List.mem_map]at a
 obtain⟨i,_,rfl⟩:=a
 rfl
theorem aDW (l:List Int)(p:Nat):(Tryz.prog.info? 61).map (·.size)=some (id16 l p).toArray.size:=by rw[idInfo];simp[id16]
theorem aDB (l:List Int)(k:Nat):id16 l (24+16*k)=idc (hdOf l) k:=by
 unfold id16 idc HD.id hdOf
 rw[List.map_map]
 apply List.map_congr_left
 intro i _
 simp[Nat.add_assoc]
abbrev z16:List Value:=[.int .u8 0,.int .u8 0,.int .u8 0,.int .u8 0,.int .u8 0,.int .u8 0,.int .u8 0,.int .u8 0,.int .u8 0,.int .u8 0,.int .u8 0,.int .u8 0,.int .u8 0,.int .u8 0,.int .u8 0,.int .u8 0]
attribute [local irreducible] wpList Code.wp
theorem aE9 (A:Option Addr)(l:List Int)(n c p:Nat)(w:World)(q:Bytes w A l)(I:l.length=n)(G:n≤1000000)(E:p+16≤n):
 Calls Tryz.prog 158 #[.slice A n c,.int .i64 (p:Int)] w fun e w'=>e= .returned (.agg (id16 l p).toArray)∧Below w.heap.size w w':=by
 obtain⟨m,d,rfl,b,a⟩:=q.spot (by omega)
 have B:=yH a
 clear a q
 have y:=yH (show Blk ((w.alloc (.cells z16.toArray 61)).alloc (.cells z16.toArray 61)) w.heap.size z16 61 from(Blk.new w z16 _).alloc _)
 have C:=yH (show Blk ((w.alloc (.cells z16.toArray 61)).alloc (.cells z16.toArray 61)) (w.heap.size+1) (id16k l p 0) 61 from Blk.new_at _ _ _ _ (by simp))
 have b0:=yH (((yB w.heap.size w).alloc (yR _) (.cells z16.toArray 61)).alloc (by simp) (.cells z16.toArray 61))
 have F:=yH (show((w.alloc (.cells z16.toArray 61)).alloc (.cells z16.toArray 61)).heap.size=w.heap.size+2 by simp)
 go_enter Tryz.func158,Tryz.ntmps158
 go_upto_region 2 with fail
 generalize (w.alloc (.cells z16.toArray 61)).alloc (.cells z16.toArray 61)=w0 at*
 go_wp2_with fail
 go_loopw [6] (fun i wr=> ∃k:Nat,k≤16∧i= .int .i64 (k:Int)∧Hid (Blk wr (w.heap.size+1) (id16k l p k) 61)∧Hid (Below (w.heap.size+1) w0 wr)) (fun i _=>16-(intOf i).toNat)
 case atStart=>exact⟨0,Nat.zero_le _,rfl,C,yH (yB _ _)⟩
 case round=>
  obtain⟨k,H,rfl,g,j⟩:=hrel
  by_cases f:k<16
  ·have o:=yH (aJ9 l p k f)
   have s:wr.cell? ⟨m,d+(p+k),none⟩=some (.int .u8 (l.getD (p+k) 0)):=((j.out.cell (p:=⟨m,d+(p+k),none⟩) (Nat.lt_succ_of_lt b)).trans (b0.out.cell (p:=⟨m,d+(p+k),none⟩) b)).trans (B.out (p+k) (by omega))
   have J:=g.out.cell (aCr l p k k f)
   have D:=g.out.frozen k
   have t:(p:Int)+(k:Int)<(n:Int):=by omega
   have r:(0:Int)≤(p:Int)+(k:Int):=by omega
   generalize l.getD (p+k) 0=x at*
   go_wp2_with fail
   go_roundw
   case rel=>exact⟨k+1,by omega,by go_num,yH (by rw[←o.out];exact g.out.set_ k _),yH (j.out.setCell (yR _) _)⟩
   case measure=>simp[intOf];omega
  ·obtain rfl:k=16:=by omega
   have u:=yH (show Blk wr (w.heap.size+1) (id16 l p) 61 by rw[←aG8];exact g.out)
   have Z:=yH ((j.out.block w.heap.size (Nat.lt_succ_self _)).trans y.out)
   have z:=yH (b0.out.trans (j.out.mono (Nat.le_succ _)))
   clear g j
   go_wp2_with(first
    |((with_reducible apply aAb 19);refine wpList_load_row rfl 61 (.tmp 5) rfl (w.heap.size+1) rfl 61 (id16 l p).toArray (0,0) _ u.out Tryz.underlying61 rfl (aDW l p) ?_)
    |((with_reducible apply aAa (.tmp 4) (.tmp 19));refine wpList_store_row rfl 61 (.tmp 4) (.tmp 19) rfl w.heap.size (id16 l p).toArray rfl rfl 61 _ Z.out (aDW l p) (by simp[id16]) (aMp l p) ?_)
    |fail)
   refine bodyPost_ret (v:= .agg (id16 l p).toArray) (by exact results_cell_row Tryz.results158 _ _ w.heap.size 61 _ (0,0) _ rfl (setRow_heap _ w.heap.size _ _ _ (0,0) Z.out) Tryz.underlying61 rfl (aDW l p)) rfl ?_
   exact⟨rfl,below_setRow z.out (yR _) _⟩
theorem aAO (h k:HD)(m p:Nat)(v:Value)(c:p<70+m)(f:k.at_ m p=v)(d: ∀i,i<70+m→i≠p→k.at_ m i=h.at_ m i):(h.cells m).set p v=k.cells m:=by
 apply List.ext_getElem?
 intro i
 rw[List.getElem?_set]
 by_cases a:i<70+m
 ·by_cases b:p=i
  ·subst b
   rw[if_pos rfl,if_pos (by rw[HD.len];exact c),HD.get _ m _ a,f]
  ·rw[if_neg b,HD.get _ m i a,HD.get _ m i a,d i a (fun e=>b e.symm)]
 ·rw[if_neg (by omega),List.getElem?_eq_none (by rw[HD.len];omega),List.getElem?_eq_none (by rw[HD.len];omega)]
theorem aPE (h:HD)(m p:Nat)(v:Int)(a:p=0):(h.cells m).set p (.int .u32 v)=({h with cp:=v}:HD).cells m:=by
 subst a
 refine aAO _ _ m _ _ (by omega) ?_ (fun i hi hne=>?_)
 ·unfold HD.at_
  rfl
 ·unfold HD.at_
  repeat' split
  all_goals first|rfl|(exfalso;omega)
theorem set_ic (h:HD)(m p:Nat)(v:Int)(a:p=1):(h.cells m).set p (.int .u32 v)=({h with ic:=v}:HD).cells m:=by
 subst a
 refine aAO _ _ m _ _ (by omega) ?_ (fun i hi hne=>?_)
 ·unfold HD.at_
  rfl
 ·unfold HD.at_
  repeat' split
  all_goals first|rfl|(exfalso;omega)
theorem set_ta (h:HD)(m p:Nat)(v:Int)(a:p=67+m):(h.cells m).set p (.int .u32 v)=({h with ta:=v}:HD).cells m:=by
 subst a
 refine aAO _ _ m _ _ (by omega) ?_ (fun i hi hne=>?_)
 ·unfold HD.at_
  rw[if_neg (by omega),if_neg (by omega),if_neg (by omega),if_pos rfl]
 ·unfold HD.at_
  repeat' split
  all_goals first|rfl|(exfalso;omega)
theorem set_ti (h:HD)(m p:Nat)(v:Int)(a:p=68+m):(h.cells m).set p (.int .u32 v)=({h with ti:=v}:HD).cells m:=by
 subst a
 refine aAO _ _ m _ _ (by omega) ?_ (fun i hi hne=>?_)
 ·unfold HD.at_
  rw[if_neg (by omega),if_neg (by omega),if_neg (by omega),if_neg (by omega),if_pos rfl]
 ·unfold HD.at_
  repeat' split
  all_goals first|rfl|(exfalso;omega)
theorem set_te (h:HD)(m p:Nat)(v:Int)(a:p=69+m):(h.cells m).set p (.int .u64 v)=({h with te:=v}:HD).cells m:=by
 subst a
 refine aAO _ _ m _ _ (by omega) ?_ (fun i hi hne=>?_)
 ·unfold HD.at_
  rw[if_neg (by omega),if_neg (by omega),if_neg (by omega),if_neg (by omega),if_neg (by omega)]
 ·unfold HD.at_
  repeat' split
  all_goals first|rfl|(exfalso;omega)
end Gp
namespace Gq
open Bytes8 Blk8 Own8 OwnE LeA RefA Ob Oc Ga Gb Gi Gj Gp
def stR (p v:Value):Sem Unit:=Instr.storeAt 123 p v
theorem st_fold (p v:Value):Instr.storeAt 123 p v=stR p v:=rfl
def bldR (parts:Array (Nat×Value)):Sem Value:=Instr.build 123 parts
theorem bld_fold (a:Array (Nat×Value)):Instr.build 123 a=bldR a:=rfl
theorem aAc (h:HD):(Tryz.prog.info? 123).map (·.size)=some (h.cells 20).toArray.size:=by rw[aEx];simp[HD.len]
theorem aBu (h:HD):(Tryz.prog.info? 123).map (·.size)=some (h.cells 20).length:=by rw[aEx];simp[HD.len]
theorem aAk {h:HD}:Tryz.zeroCells123.size=(h.cells 20).toArray.size:=by rw[show Tryz.zeroCells123.size=90 by kernel_rfl];simp[HD.len]
theorem store_head (w:World)(g:Nat)(old a:Array Value)(h:w.heap[g]? =some (.cells old 123 (0,0)))(b:old.size=a.size)(d:(Tryz.prog.info? 123).map (·.size)=some a.size)(c:a.all (·.oneCell')=true):
 (stR (.pointer (some ⟨g,0,none⟩)) (.agg a)).run Tryz.prog w= .ok () (w.setRow g a):=by
 unfold stR
 simp only[Instr.storeAt,Instr.sureAddr,Sem.run_bind,Sem.run_pure,Result.andThen_ok]
 exact run_storeVar_row w g 123 123 old a h d b c
theorem aKa (h:HD)(st:Int):Tryz.prog.built 123 [(2,.int .i64 st),(3,.agg (idc h 0).toArray),(4,.agg (idc h 1).toArray),(5,.agg (idc h 2).toArray),(6,.agg (idc h 3).toArray)]=some ((⟨0,0,st,h.I,fun _=>0,0,0,0⟩:HD).cells 20).toArray:=by kernel_rfl
theorem build_head (w:World)(h:HD)(st:Int):(bldR #[(2,.int .i64 st),(3,.agg (idc h 0).toArray),(4,.agg (idc h 1).toArray),(5,.agg (idc h 2).toArray),(6,.agg (idc h 3).toArray)]).run Tryz.prog w= .ok (.agg ((⟨0,0,st,h.I,fun _=>0,0,0,0⟩:HD).cells 20).toArray) w:=by
 unfold bldR
 exact run_build w _ _ _ (aKa h st)
theorem lt_of_heap {w:World}{g:Nat}{o:Obj}(h:w.heap[g]? =some o):g<w.heap.size:=(Array.getElem?_eq_some_iff.1 h).1
attribute [local irreducible] HD.cells idc wpList Code.wp
attribute [local go_sem ↓] st_fold bld_fold
def Raw1 (bb off:Nat)(s16:Int)(cs:List Value)(w1 W:World)(g:Nat):Prop:=Blk (W.setRow g cs.toArray) g cs 123∧Below w1.heap.size w1 (W.setRow g cs.toArray)∧(W.setRow g cs.toArray).cell? ⟨bb,off+16,none⟩=some (.int .u8 s16)
theorem aOt (A:Option Addr)(l:List Int)(n c:Nat)(w:World)(hb:Bytes w A l)(hL:l.length=n)(cR:272≤n)(hn:n≤1000000):
 Calls Tryz.prog 124 #[.slice A n c] w fun e w'=>e= .returned (.tuple #[.agg ((hdOf l).cells 20).toArray,.int .u64 (Ob.u8 l 248)])∧Below w.heap.size w w':=by
 have az:=yH fun(W:World) (hW:Bytes W A l)=>show Calls Tryz.prog 158 #[.slice A n c,.int .i64 24] W fun e w'=>e= .returned (.agg (idc (hdOf l) 0).toArray)∧Below W.heap.size W w' by
  rw[←aDB l 0]
  exact aE9 A l n c 24 W hW hL hn (by omega)
 have ai:=yH fun(W:World) (hW:Bytes W A l)=>show Calls Tryz.prog 158 #[.slice A n c,.int .i64 40] W fun e w'=>e= .returned (.agg (idc (hdOf l) 1).toArray)∧Below W.heap.size W w' by
  rw[←aDB l 1]
  exact aE9 A l n c 40 W hW hL hn (by omega)
 have L:=yH fun(W:World) (hW:Bytes W A l)=>show Calls Tryz.prog 158 #[.slice A n c,.int .i64 56] W fun e w'=>e= .returned (.agg (idc (hdOf l) 2).toArray)∧Below W.heap.size W w' by
  rw[←aDB l 2]
  exact aE9 A l n c 56 W hW hL hn (by omega)
 have y:=yH fun(W:World) (hW:Bytes W A l)=>show Calls Tryz.prog 158 #[.slice A n c,.int .i64 72] W fun e w'=>e= .returned (.agg (idc (hdOf l) 3).toArray)∧Below W.heap.size W w' by
  rw[←aDB l 3]
  exact aE9 A l n c 72 W hW hL hn (by omega)
 have b7:=hb.1.at_ 16
 have ci:IntKind.i64.wrap (l.getD 16 0)=l.getD 16 0:=by rw[IntKind.wrap_i64];omega
 obtain⟨u,a,rfl,a1,ay⟩:=hb.spot (by omega)
 have t:=yH hb
 have aJ:=yH (ay 16 (by omega))
 have a9:=yH a1
 clear ay a1
 go_enter Tryz.func124,Tryz.ntmps124
 go_upto_region 1 with fail
 have q:=yH ((yB w.heap.size w).alloc (yR _) (.cells Tryz.zeroCells123 123))
 have Z1:=yH (heap_alloc_new w (.cells Tryz.zeroCells123 123))
 have s1:=yH (show(w.alloc (.cells Tryz.zeroCells123 123)).heap.size=w.heap.size+1 by simp)
 generalize w.alloc (.cells Tryz.zeroCells123 123)=w1 at*
 have aP:(hdOf l).st=l.getD 16 0:=rfl
 generalize l.getD 16 0=o at*
 have bJ:=yH aP
 clear aP b7
 have bL:=yH (yL a9.out q.out.size)
 have s:=yH fun(W:World) (hW:Below w1.heap.size w1 W)=>show W.cell? ⟨u,a+16,none⟩=some (.int .u8 o)from(hW.cell (p:=⟨u,a+16,none⟩) bL.out).trans ((q.out.cell (p:=⟨u,a+16,none⟩) a9.out).trans aJ.out)
 have f:=yH fun(W:World) (g:Nat) (hg:w1.heap.size≤g) (hZ:W.heap[g]? =some (.cells Tryz.zeroCells123 123 (0,0)))=>store_head W g _ ((⟨0,0,o,(hdOf l).I,fun _=>0,0,0,0⟩:HD).cells 20).toArray hZ aAk (aAc _) (HD.one _ 20)
 have d:=yH fun(W:World) (g:Nat) (hg:w1.heap.size≤g) (hW:Below w1.heap.size w1 W) (hZ:W.heap[g]? =some (.cells Tryz.zeroCells123 123 (0,0)))=>show Raw1 u a o ((⟨0,0,o,(hdOf l).I,fun _=>0,0,0,0⟩:HD).cells 20) w1 W g from⟨setRow_heap _ _ _ _ _ (0,0) hZ,below_setRow hW hg _,s.out _ (below_setRow hW hg _)⟩
 have b0:=fun W:World=>build_head W (hdOf l) o
 have db:(16:Int)<(n:Int):=by omega
 have bE:=yH (show Bytes w1.drew (some ⟨u,a,none⟩) l from(t.out.below q.out (yR _)).drew)
 have aQ:=yH (show Below w1.heap.size w1 w1.drew from(yB w1.heap.size w1).drew)
 have ap:=yH (show Below w1.heap.size w1 (w1.alloc (.cells Tryz.zeroCells123 123)).drew from((yB w1.heap.size w1).alloc (yR _) _).drew)
 have bF:=yH (show Bytes (w1.alloc (.cells Tryz.zeroCells123 123)).drew (some ⟨u,a,none⟩) l from(t.out.below q.out (yR _)).below ap.out (yR _))
 have aD:=yH (show(w1.alloc (.cells Tryz.zeroCells123 123)).drew.heap[w1.heap.size]? =some (.cells Tryz.zeroCells123 123 (0,0))from heap_alloc_new w1 _)
 have bh:=s.out _ aQ.out
 have bm:=s.out _ ap.out
 have cm:=f.out _ w1.heap.size (yR _) aD.out
 have aS:=yH (d.out _ w1.heap.size (yR _) ap.out aD.out)
 have bg:=aS.out.2.2
 go_cut [4]from 14 to 27 (fun z wx=> ∃g,z= .pointer (some ⟨g,0,none⟩)∧Blk wx g ((⟨0,0,o,(hdOf l).I,fun _=>0,0,0,0⟩:HD).cells 20) 123∧Below w1.heap.size w1 wx∧Hid (w1.heap.size≤g))
 case first=>
  go_region_held3 (fun W=>W.cell? ⟨u,a+16,none⟩=some (.int .u8 o)) (first|(with_reducible exact bh)|(with_reducible exact bm)|(with_reducible exact bg)|(with_reducible exact ct)|(with_reducible exact bn)|(with_reducible exact bS)|(with_reducible exact bM)|(with_reducible exact bH)|(with_reducible exact b8)|(with_reducible exact bK)|(with_reducible exact bC)|(with_reducible exact b2)|(with_reducible exact bj)|(with_reducible exact bN)|(with_reducible exact bG)|(with_reducible exact cA)|(with_reducible exact bx)|(with_reducible exact bO)|(with_reducible exact bZ)|(with_reducible exact bl)|(with_reducible exact bW)|(with_reducible exact bB)|(with_reducible exact b4)|(with_reducible exact bA)|(with_reducible exact ch)|(with_reducible exact bT)|(with_reducible exact bY)|(with_reducible exact bo)|(with_reducible exact bI)|(with_reducible exact b5)|(with_reducible exact b6)|(with_reducible exact bz)|(with_reducible exact bk)|(with_reducible exact br)|(with_reducible exact bU)|go_keep) (first
   |(go_simp;go_at_call 158;(with_reducible refine(az.out _ bE.out).mono ?_);rintro e n1 ⟨rfl,aV⟩;have b:=yH (aQ.out.trans (aV.mono aQ.out.size));have cl:=yH ((t.out.below q.out (yR _)).below b.out (yR _));have ct:=s.out _ b.out;have J:=yH (show Below w1.heap.size w1 (n1.alloc (.cells Tryz.zeroCells123 123))from b.out.alloc b.out.size _);have bd:=yH ((t.out.below q.out (yR _)).below J.out (yR _));have bn:=s.out _ J.out;have ao:=yH (show(n1.alloc (.cells Tryz.zeroCells123 123)).heap[n1.heap.size]? =some (.cells Tryz.zeroCells123 123 (0,0))from heap_alloc_new n1 _);have cY:=f.out _ _ b.out.size ao.out;have aF:=yH (d.out _ _ b.out.size J.out ao.out);have bS:=aF.out.2.2;clear aV)
   |(go_simp;go_at_call 158;(with_reducible refine(az.out _ bF.out).mono ?_);rintro e c1 ⟨rfl,Y⟩;have B:=yH (ap.out.trans (Y.mono ap.out.size));have bi:=yH ((t.out.below q.out (yR _)).below B.out (yR _));have bM:=s.out _ B.out;have ag:=yH ((Y.block _ (lt_of_heap aD.out)).trans aD.out);have cV:=f.out _ _ (yR _) ag.out;have aN:=yH (d.out _ _ (yR _) B.out ag.out);have bH:=aN.out.2.2;clear Y)
   |(go_simp;go_at_call 158;(with_reducible refine(ai.out _ cl.out).mono ?_);rintro e n2 ⟨rfl,aY⟩;have m:=yH (b.out.trans (aY.mono b.out.size));have cn:=yH ((t.out.below q.out (yR _)).below m.out (yR _));have b8:=s.out _ m.out;have E:=yH (show Below w1.heap.size w1 (n2.alloc (.cells Tryz.zeroCells123 123))from m.out.alloc m.out.size _);have bv:=yH ((t.out.below q.out (yR _)).below E.out (yR _));have bK:=s.out _ E.out;have am:=yH (show(n2.alloc (.cells Tryz.zeroCells123 123)).heap[n2.heap.size]? =some (.cells Tryz.zeroCells123 123 (0,0))from heap_alloc_new n2 _);have c0:=f.out _ _ m.out.size am.out;have aO:=yH (d.out _ _ m.out.size E.out am.out);have bC:=aO.out.2.2;clear aY)
   |(go_simp;go_at_call 158;(with_reducible refine(ai.out _ bd.out).mono ?_);rintro e cT ⟨rfl,Z⟩;have G:=yH (J.out.trans (Z.mono J.out.size));have bX:=yH ((t.out.below q.out (yR _)).below G.out (yR _));have b2:=s.out _ G.out;have aj:=yH ((Z.block _ (lt_of_heap ao.out)).trans ao.out);have cF:=f.out _ _ (b.out.size) aj.out;have aI:=yH (d.out _ _ (b.out.size) G.out aj.out);have bj:=aI.out.2.2;clear Z)
   |(go_simp;go_at_call 158;(with_reducible refine(ai.out _ bi.out).mono ?_);rintro e cL ⟨rfl,V⟩;have D:=yH (B.out.trans (V.mono B.out.size));have bV:=yH ((t.out.below q.out (yR _)).below D.out (yR _));have bN:=s.out _ D.out;have al:=yH ((V.block _ (lt_of_heap ag.out)).trans ag.out);have cK:=f.out _ _ (yR _) al.out;have aq:=yH (d.out _ _ (yR _) D.out al.out);have bG:=aq.out.2.2;clear V)
   |(go_simp;go_at_call 158;(with_reducible refine(L.out _ cn.out).mono ?_);rintro e n3 ⟨rfl,a5⟩;have r:=yH (m.out.trans (a5.mono m.out.size));have cf:=yH ((t.out.below q.out (yR _)).below r.out (yR _));have cA:=s.out _ r.out;have C:=yH (show Below w1.heap.size w1 (n3.alloc (.cells Tryz.zeroCells123 123))from r.out.alloc r.out.size _);have bu:=yH ((t.out.below q.out (yR _)).below C.out (yR _));have bx:=s.out _ C.out;have ah:=yH (show(n3.alloc (.cells Tryz.zeroCells123 123)).heap[n3.heap.size]? =some (.cells Tryz.zeroCells123 123 (0,0))from heap_alloc_new n3 _);have cZ:=f.out _ _ r.out.size ah.out;have aG:=yH (d.out _ _ r.out.size C.out ah.out);have bO:=aG.out.2.2;clear a5)
   |(go_simp;go_at_call 158;(with_reducible refine(L.out _ bv.out).mono ?_);rintro e c5 ⟨rfl,ac⟩;have F:=yH (E.out.trans (ac.mono E.out.size));have bw:=yH ((t.out.below q.out (yR _)).below F.out (yR _));have bZ:=s.out _ F.out;have ak:=yH ((ac.block _ (lt_of_heap am.out)).trans am.out);have cS:=f.out _ _ (m.out.size) ak.out;have aM:=yH (d.out _ _ (m.out.size) F.out ak.out);have bl:=aM.out.2.2;clear ac)
   |(go_simp;go_at_call 158;(with_reducible refine(L.out _ bV.out).mono ?_);rintro e cP ⟨rfl,X⟩;have M:=yH (D.out.trans (X.mono D.out.size));have bs:=yH ((t.out.below q.out (yR _)).below M.out (yR _));have bW:=s.out _ M.out;have an:=yH ((X.block _ (lt_of_heap al.out)).trans al.out);have cI:=f.out _ _ (yR _) an.out;have aC:=yH (d.out _ _ (yR _) M.out an.out);have bB:=aC.out.2.2;clear X)
   |(go_simp;go_at_call 158;(with_reducible refine(L.out _ bX.out).mono ?_);rintro e cU ⟨rfl,ae⟩;have H:=yH (G.out.trans (ae.mono G.out.size));have bP:=yH ((t.out.below q.out (yR _)).below H.out (yR _));have b4:=s.out _ H.out;have af:=yH ((ae.block _ (lt_of_heap aj.out)).trans aj.out);have cX:=f.out _ _ (b.out.size) af.out;have aE:=yH (d.out _ _ (b.out.size) H.out af.out);have bA:=aE.out.2.2;clear ae)
   |(go_simp;go_at_call 158;(with_reducible refine(y.out _ cf.out).mono ?_);rintro e n4 ⟨rfl,aX⟩;have R:=yH (r.out.trans (aX.mono r.out.size));have c8:=yH ((t.out.below q.out (yR _)).below R.out (yR _));have ch:=s.out _ R.out;have aL:=yH (show Below w1.heap.size w1 (n4.alloc (.cells Tryz.zeroCells123 123))from R.out.alloc R.out.size _);have cE:=yH ((t.out.below q.out (yR _)).below aL.out (yR _));have bT:=s.out _ aL.out;have aU:=yH (show(n4.alloc (.cells Tryz.zeroCells123 123)).heap[n4.heap.size]? =some (.cells Tryz.zeroCells123 123 (0,0))from heap_alloc_new n4 _);have c7:=f.out _ _ R.out.size aU.out;have ax:=yH (d.out _ _ R.out.size aL.out aU.out);have bY:=ax.out.2.2;clear aX)
   |(go_simp;go_at_call 158;(with_reducible refine(y.out _ bu.out).mono ?_);rintro e c6 ⟨rfl,aa⟩;have aH:=yH (C.out.trans (aa.mono C.out.size));have c3:=yH ((t.out.below q.out (yR _)).below aH.out (yR _));have bo:=s.out _ aH.out;have aZ:=yH ((aa.block _ (lt_of_heap ah.out)).trans ah.out);have c4:=f.out _ _ (r.out.size) aZ.out;have av:=yH (d.out _ _ (r.out.size) aH.out aZ.out);have bI:=av.out.2.2;clear aa)
   |(go_simp;go_at_call 158;(with_reducible refine(y.out _ bs.out).mono ?_);rintro e cN ⟨rfl,ad⟩;have au:=yH (M.out.trans (ad.mono M.out.size));have cO:=yH ((t.out.below q.out (yR _)).below au.out (yR _));have b5:=s.out _ au.out;have a4:=yH ((ad.block _ (lt_of_heap an.out)).trans an.out);have cQ:=f.out _ _ (yR _) a4.out;have aB:=yH (d.out _ _ (yR _) au.out a4.out);have b6:=aB.out.2.2;clear ad)
   |(go_simp;go_at_call 158;(with_reducible refine(y.out _ bP.out).mono ?_);rintro e cC ⟨rfl,ab⟩;have aw:=yH (H.out.trans (ab.mono H.out.size));have cB:=yH ((t.out.below q.out (yR _)).below aw.out (yR _));have bz:=s.out _ aw.out;have aT:=yH ((ab.block _ (lt_of_heap af.out)).trans af.out);have cJ:=f.out _ _ (b.out.size) aT.out;have ar:=yH (d.out _ _ (b.out.size) aw.out aT.out);have bk:=ar.out.2.2;clear ab)
   |(go_simp;go_at_call 158;(with_reducible refine(y.out _ bw.out).mono ?_);rintro e c2 ⟨rfl,N⟩;have aK:=yH (F.out.trans (N.mono F.out.size));have cD:=yH ((t.out.below q.out (yR _)).below aK.out (yR _));have br:=s.out _ aK.out;have a2:=yH ((N.block _ (lt_of_heap ak.out)).trans ak.out);have cW:=f.out _ _ (m.out.size) a2.out;have aA:=yH (d.out _ _ (m.out.size) aK.out a2.out);have bU:=aA.out.2.2;clear N)
   |fail)
  all_goals
   go_wp2_with fail
   go_meet
   case rel=>first|exact⟨_,rfl,aA.out.1,aA.out.2.1,yH (m.out.size)⟩|exact⟨_,rfl,ar.out.1,ar.out.2.1,yH (b.out.size)⟩|exact⟨_,rfl,aB.out.1,aB.out.2.1,yH (yR _)⟩|exact⟨_,rfl,av.out.1,av.out.2.1,yH (r.out.size)⟩|exact⟨_,rfl,ax.out.1,ax.out.2.1,yH (R.out.size)⟩|exact⟨_,rfl,aE.out.1,aE.out.2.1,yH (b.out.size)⟩|exact⟨_,rfl,aC.out.1,aC.out.2.1,yH (yR _)⟩|exact⟨_,rfl,aM.out.1,aM.out.2.1,yH (m.out.size)⟩|exact⟨_,rfl,aG.out.1,aG.out.2.1,yH (r.out.size)⟩|exact⟨_,rfl,aq.out.1,aq.out.2.1,yH (yR _)⟩|exact⟨_,rfl,aI.out.1,aI.out.2.1,yH (b.out.size)⟩|exact⟨_,rfl,aO.out.1,aO.out.2.1,yH (m.out.size)⟩|exact⟨_,rfl,aN.out.1,aN.out.2.1,yH (yR _)⟩|exact⟨_,rfl,aF.out.1,aF.out.2.1,yH (b.out.size)⟩|exact⟨_,rfl,aS.out.1,aS.out.2.1,yH (yR _)⟩
 case rest=>
  obtain⟨g,rfl,hR,hB,hg⟩:=hcut
  have R2:=yH hR
  have B2:=yH hB
  have G4:=yH fun(p:Nat) (hp:p+4≤n) (W:World) (hW:Bytes W (some ⟨u,a,none⟩) l)=>show Calls Tryz.prog 112 #[.slice (some ⟨u,a,none⟩) n c,.int .i64 (p:Int),.int .i64 4] W fun e w'=>e= .returned (.tuple #[.int .u64 (u4 l p),.bool true])∧W=w' by
   subst hL
   exact aIH _ l c p 4 W (by omega) (by unfold fits isW;simp;omega) hW
  have ba:=yH ((t.out.below q.out (yR _)).below hB (yR _))
  have bc:=yH (t.out.below q.out (yR _))
  clear hR hB az ai L y s f d b0 ci bE aQ ap bF aD bh bm cm aS bg aJ
  have bt:=yH (show Calls Tryz.prog 112 #[.slice (some ⟨u,a,none⟩) n c,.int .i64 8,.int .i64 4] wc _ from G4.out 8 (by omega) wc ba.out)
  have a0:=yH (show Calls Tryz.prog 112 #[.slice (some ⟨u,a,none⟩) n c,.int .i64 12,.int .i64 4] wc _ from G4.out 12 (by omega) wc ba.out)
  have U8:=aDz hb.1 8
  have c9:=aDz hb.1 12
  have x0:wc.cell? ⟨g,0,none⟩=some (.int .u32 0):=R2.out.cell (HD.get _ 20 0 (by decide))
  have x1:wc.cell? ⟨g,1,none⟩=some (.int .u32 0):=R2.out.cell (HD.get _ 20 1 (by decide))
  have f0:=R2.out.frozen 0
  have f1:=R2.out.frozen 1
  have bQ:=yH (show((((⟨0,0,o,(hdOf l).I,fun _=>0,0,0,0⟩:HD).cells 20).set 0 (.int .u32 (u4 l 8))).set 1 (.int .u32 (u4 l 12)))=((⟨u4 l 8,u4 l 12,o,(hdOf l).I,fun _=>0,0,0,0⟩:HD).cells 20)by
   rw[aPE _ 20 0 _ rfl,set_ic _ 20 1 _ rfl])
  generalize bR:u4 l 8=cp at*
  generalize a6:u4 l 12=ic at*
  have cb:=yH bR
  have cg:=yH a6
  clear bR a6
  go_upto_region 5 with(first
   |(go_at_call 112;((with_reducible refine bt.out.mono ?_);rintro e w' ⟨rfl,rfl⟩))
   |(go_at_call 112;((with_reducible refine a0.out.mono ?_);rintro e w' ⟨rfl,rfl⟩))
   |fail)
  have R5:=yH (show Blk ((wc.setCell ⟨g,0,none⟩ (.int .u32 cp)).setCell ⟨g,1,none⟩ (.int .u32 ic)) g ((⟨cp,ic,o,(hdOf l).I,fun _=>0,0,0,0⟩:HD).cells 20) 123 by rw[←bQ.out];exact(R2.out.set_ 0 _).set_ 1 _)
  have B5:=yH (show Below w1.heap.size w1 ((wc.setCell ⟨g,0,none⟩ (.int .u32 cp)).setCell ⟨g,1,none⟩ (.int .u32 ic))from(B2.out.setCell hg.out _).setCell hg.out _)
  clear bt a0 x0 x1 f0 f1 bQ R2 B2 ba
  generalize (wc.setCell ⟨g,0,none⟩ (.int .u32 cp)).setCell ⟨g,1,none⟩ (.int .u32 ic)=w5 at*
  go_wp2_with fail
  have HS:=yH fun(k:Nat) (hk:k<20)=>show((⟨cp,ic,o,(hdOf l).I,fun i=>if i<k then Ob.u8 l (88+8*i)else 0,0,0,0⟩:HD).cells 20).set (67+k) (.int .u64 (Ob.u8 l (88+8*k)))=((⟨cp,ic,o,(hdOf l).I,fun i=>if i<k+1 then Ob.u8 l (88+8*i)else 0,0,0,0⟩:HD).cells 20)from
   aAO _ _ 20 (67+k) _ (by omega) (by unfold HD.at_;rw[if_neg (by omega),if_neg (by omega),if_pos (by omega),show 67+k-67=k by omega];simp) (fun i hi bf=>by
    unfold HD.at_
    by_cases h3:i<3
    ·rw[if_pos h3,if_pos h3]
    rw[if_neg h3,if_neg h3]
    by_cases h4:i<67
    ·rw[if_pos h4,if_pos h4]
    rw[if_neg h4,if_neg h4]
    by_cases h5:i<67+20
    ·rw[if_pos h5,if_pos h5]
     dsimp only
     by_cases h6:i-67<k
     ·rw[if_pos h6,if_pos (by omega)]
     ·rw[if_neg h6,if_neg (by omega)]
    ·rw[if_neg h5,if_neg h5])
  have HU:=yH fun(k:Nat) (hk:k≤22) (W:World) (hW:Bytes W (some ⟨u,a,none⟩) l)=>show Calls Tryz.prog 159 #[.slice (some ⟨u,a,none⟩) n c,.int .u64 (88+8*(k:Int))] W fun e w'=>e= .returned (.int .u64 (Ob.u8 l (88+8*k)))∧W=w' by
   rw[show(88+8*(k:Int))=((88+8*k:Nat):Int)by omega]
   exact aIJ _ l n c (88+8*k) W hW hL hn (by omega)
  go_loopw [9] (fun i wr=> ∃k:Nat,k≤20∧i= .int .i64 (k:Int)∧Hid (Blk wr g ((⟨cp,ic,o,(hdOf l).I,fun i=>if i<k then Ob.u8 l (88+8*i)else 0,0,0,0⟩:HD).cells 20) 123)∧Hid (Below w1.heap.size w1 wr)) (fun i _=>20-(intOf i).toNat)
  case atStart=>exact⟨0,Nat.zero_le _,rfl,by simpa using R5,B5⟩
  case round=>
   obtain⟨k,hk,rfl,hR,hB⟩:=hrel
   by_cases bq:k<20
   ·have cc:=yH (HS.out k bq)
    have cd:=yH (bc.out.below hB.out (yR _))
    have ca:=yH (HU.out k (by omega) wr cd.out)
    have ck:=HD.nums_at hR.out k bq
    have fk:=hR.out.frozen (67+k)
    generalize Ob.u8 l (88+8*k)=x at*
    go_wp2_with(go_at_call 159;((with_reducible refine ca.out.mono ?_);rintro e w' ⟨rfl,rfl⟩))
    go_roundw
    case rel=>exact⟨k+1,by omega,by go_num,yH (by rw[←cc.out];exact hR.out.set_ (67+k) _),yH (hB.out.setCell hg.out _)⟩
    case measure=>simp[intOf];omega
   ·obtain rfl:k=20:=by omega
    rename World=>w6
    have aR:=yH (bc.out.below hB.out (yR _))
    have a3:=yH (show Calls Tryz.prog 112 #[.slice (some ⟨u,a,none⟩) n c,.int .i64 256,.int .i64 4] w6 _ from G4.out 256 (by omega) w6 aR.out)
    have a7:=yH (show Calls Tryz.prog 112 #[.slice (some ⟨u,a,none⟩) n c,.int .i64 260,.int .i64 4] w6 _ from G4.out 260 (by omega) w6 aR.out)
    have aW:=yH (show Calls Tryz.prog 159 #[.slice (some ⟨u,a,none⟩) n c,.int .u64 264] w6 _ from HU.out 22 (by decide) w6 aR.out)
    have cH:=aDz hb.1 256
    have cG:=aDz hb.1 260
    have cw:w6.cell? ⟨g,87,none⟩=some (.int .u32 0):=hR.out.cell (HD.get_ta _ 20)
    have cz:w6.cell? ⟨g,88,none⟩=some (.int .u32 0):=hR.out.cell (HD.get_ti _ 20)
    have co:w6.cell? ⟨g,89,none⟩=some (.int .u64 0):=hR.out.cell (HD.get_te _ 20)
    have cs:=hR.out.frozen 87
    have cj:=hR.out.frozen 88
    have ce:=hR.out.frozen 89
    have a8:=yH (show(((((⟨cp,ic,o,(hdOf l).I,fun i=>if i<20 then Ob.u8 l (88+8*i)else 0,0,0,0⟩:HD).cells 20).set 87 (.int .u32 (u4 l 256))).set 88 (.int .u32 (u4 l 260))).set 89 (.int .u64 (Ob.u8 l (88+8*22))))=(hdOf l).cells 20 by
     rw[set_ta _ 20 87 _ rfl,set_ti _ 20 88 _ rfl,set_te _ 20 89 _ rfl]
     apply aL8
     intro i hi
     unfold HD.at_
     by_cases h3:i<3
     ·rw[if_pos h3,if_pos h3,←cb.out,←cg.out,←bJ.out];rfl
     rw[if_neg h3,if_neg h3]
     by_cases h4:i<67
     ·rw[if_pos h4,if_pos h4]
     rw[if_neg h4,if_neg h4]
     by_cases h5:i<67+20
     ·rw[if_pos h5,if_pos h5]
      show Value.int .u64 (if i-67<20 then _ else 0)=_
      rw[if_pos (by omega)];rfl
     rw[if_neg h5,if_neg h5]
     rfl)
    generalize u4 l 256=ta at*
    generalize u4 l 260=ti at*
    generalize Ob.u8 l (88+8*22)=te at*
    clear R5 B5 HS
    go_upto_region 12 with(first
     |(go_at_call 112;((with_reducible refine a3.out.mono ?_);rintro e w' ⟨rfl,rfl⟩))
     |(go_at_call 112;((with_reducible refine a7.out.mono ?_);rintro e w' ⟨rfl,rfl⟩))
     |(go_at_call 159;((with_reducible refine aW.out.mono ?_);rintro e w' ⟨rfl,rfl⟩))
     |fail)
    have R9:=yH (show Blk (((w6.setCell ⟨g,87,none⟩ (.int .u32 ta)).setCell ⟨g,88,none⟩ (.int .u32 ti)).setCell ⟨g,89,none⟩ (.int .u64 te)) g ((hdOf l).cells 20) 123 by rw[←a8.out];exact((hR.out.set_ 87 _).set_ 88 _).set_ 89 _)
    have B9:=yH (show Below w1.heap.size w1 (((w6.setCell ⟨g,87,none⟩ (.int .u32 ta)).setCell ⟨g,88,none⟩ (.int .u32 ti)).setCell ⟨g,89,none⟩ (.int .u64 te))from((hB.out.setCell hg.out _).setCell hg.out _).setCell hg.out _)
    clear cw cz co cs cj ce a8 hR hB a3 a7 aW aR
    generalize ((w6.setCell ⟨g,87,none⟩ (.int .u32 ta)).setCell ⟨g,88,none⟩ (.int .u32 ti)).setCell ⟨g,89,none⟩ (.int .u64 te)=w9 at*
    have cv:=yH (bc.out.below B9.out (yR _))
    have cy:=yH (show ∀W:World,Bytes W (some ⟨u,a,none⟩) l→Calls Tryz.prog 159 #[.slice (some ⟨u,a,none⟩) n c,.int .u64 248] W fun e w'=>e= .returned (.int .u64 (Ob.u8 l 248))∧W=w' from fun W hW=>HU.out 20 (by decide) W hW)
    have Z9:=yH ((B9.out.block w.heap.size (by rw[s1.out];exact Nat.lt_succ_self _)).trans Z1.out)
    have cM:=store_head w9.drew w.heap.size _ ((hdOf l).cells 20).toArray Z9.out aAk (aAc _) (HD.one _ 20)
    have bf:g≠w.heap.size:=by have:=hg.out;rw[s1.out]at this;omega
    have q9:=(show World.rangeAt w9.drew g 0 ((hdOf l).cells 20)from fun j v hj=>by rw[Nat.zero_add];exact R9.out.cell hj)
    have cu:=yH (show Below w.heap.size w (w9.drew.setRow w.heap.size ((hdOf l).cells 20).toArray)from below_setRow ((q.out.trans (B9.out.mono (by rw[s1.out];exact Nat.le_succ _))).drew) (yR _) _)
    have cq:=(show World.rangeAt (w9.drew.setRow w.heap.size ((hdOf l).cells 20).toArray) g 0 ((hdOf l).cells 20)from fun j v hj=>by rw[Nat.zero_add,cell_setRow_other _ _ _ _ bf];exact R9.out.cell hj)
    have bD:=yH (show Bytes w9.drew (some ⟨u,a,none⟩) l from cv.out.drew)
    have cr:u≠w.heap.size:=Nat.ne_of_lt a9.out
    have da:=yH (show Bytes (w9.drew.setRow w.heap.size ((hdOf l).cells 20).toArray) (some ⟨u,a,none⟩) l from⟨hb.1,fun i hi=>by
     obtain⟨b3,o3,e3,h3,h4⟩:=bD.out.2 i hi
     refine⟨b3,o3,e3,by rw[setRow_size];exact h3,?_⟩
     injection e3 with e3
     injection e3 with e3 e4
     subst e3
     rw[cell_setRow_other _ _ _ _ cr]
     exact h4⟩)
    have cx:=yH (show(w9.drew.setRow w.heap.size ((hdOf l).cells 20).toArray).heap[w.heap.size]? =some (.cells ((hdOf l).cells 20).toArray 123 (0,0))from setRow_heap _ w.heap.size _ _ _ (0,0) Z9.out)
    generalize bp:Ob.u8 l 248=dp at*
    have b9:=yH bp
    clear bp
    refine wp_region_noPanic ?_
    refine wp_region_held_drew (S:=fun W:World=>W.rangeAt g 0 ((hdOf l).cells 20)) (by kernel_rfl) (by exact q9) (fun hHeld=>?_)
    refine tk (i:=0) (oi:=⟨some 75,_,_,_,_,_⟩) rfl (yieldsIf_load_mid (by rfl) _ _ rfl _ _ rfl _ _ (fun _ h=>h) Tryz.underlying123 rfl (aBu _)) ?_
    try simp only[Act.put,sA,sZ,sS]
    refine tq 1 76 rfl (fun W hSw=>by go_simp;try (with_reducible rfl)) ?_
    try simp only[Act.put,sA,sZ,sS]
    refine rd 2 rfl (fun K hK=>?_)
    go_simp
    ((with_reducible refine(cy.out _ bD.out).mono ?_);rintro e w' ⟨rfl,rfl⟩)
    try go_wp2_with fail
    refine hK.out _ _ (by exact q9) (fun hHeld=>?_)
    clear hK K
    try simp only[Act.put,sA,sZ,sS]
    refine rd 3 rfl (fun K hK=>?_)
    go_simp
    skip
    try go_wp2_with fail
    refine hK.out _ _ (by exact cq) (fun hHeld=>?_)
    clear hK K
    try simp only[Act.put,sA,sZ,sS]
    refine tq 4 3 rfl (fun W hSw=>by go_simp;try (with_reducible rfl)) ?_
    try simp only[Act.put,sA,sZ,sS]
    refine wpAnyH_done (by kernel_rfl) ?_ _
    refine NoPanic.normal ?_
    go_wp2_with fail
    refine bodyPost_ret (v:= .tuple #[.agg ((hdOf l).cells 20).toArray,.int .u64 dp]) (by exact aAq Tryz.results124 _ _ w.heap.size 123 _ (0,0) _ _ rfl rfl cx.out Tryz.underlying123 rfl (aAc _)) rfl ?_
    exact⟨by rw[b9.out],cu.out⟩
end Gq
end Go.Proofs.YteaikbodkgjkdaaGreat
