/-
  Texts beneath the proof.
-/
import Derived.Test.YtiddkgcafpaekaaGreatQs36
set_option linter.unusedVariables false
set_option linter.unusedSimpArgs false
set_option maxRecDepth 100000
set_option maxHeartbeats 8000000
open Go.ChangeShapes Go.WideShapes Go.ChangeAt Go.RowKit
namespace Go.Proofs.YtiddkgcafpaekaaGreat
namespace Wb
open Bytes8 Blk8 Own8 OwnA OwnE Rows2 Ob Ga Gb Ok7 Rc Va Dc Wa
open Yp Ye Yg Yh
open Rg (arcode)
open Ym (wordElt)
structure In (w wz:World)(E:Nat)(n0:Int)(R:List Int×Int)(K:List Int→List Int×Int)(ni:Int)(g:Nat→Int)(ga cnt k:Nat)(nx:Int)(It:Option Addr)(ci:Nat)(T:TypeId)(out:List Int)(A:Option Addr)(m c:Nat):Prop where
 run:inA K E n0 ni g (cnt-k) k out=R
 own:OwnE 27 1 wz w.heap.size A m c (out.map (Value.int .u64))
 len:out.length=m
 up:Up E out
 le:(m:Int)≤n0
 blk:Blk wz ga [.int .u64 nx,.slice It cnt ci] T
 its:InInts .u64 wz It cnt g
 low:w.heap.size≤ga
 apB:ownB A≠some ga
 apI: ∀b off,It=some ⟨b,off,none⟩→ownB A≠some b
 bel:Below w.heap.size w wz
theorem In.push {w wz w2:World}{E:Nat}{n0:Int}{R:List Int×Int}{K:List Int→List Int×Int}{ni:Int}{g:Nat→Int}{ga cnt k:Nat}{nx:Int}{It:Option Addr}{ci:Nat}{T:TypeId}{out:List Int}{A:Option Addr}{m c:Nat}
 (p:In w wz E n0 R K ni g ga cnt k nx It ci T out A m c)(hk:k<cnt)(hn:(m:Int)≠n0)(h1:nothB E (g k)=false)(h2:lastI out<g k){w1:World}(hb:Below wz.heap.size wz w1){A2:Option Addr}{c2:Nat}(ho:OwnE 27 1 w2 w.heap.size A2 (m+1) c2 (out.map (Value.int .u64)++ [.int .u64 (g k)]))(hg:w1.grownBy w2 (ownB A))(hat:ownB A2=ownB A∨ownB A2=some w1.heap.size):
 In w w2 E n0 R K ni g ga cnt (k+1) nx It ci T (out++ [g k]) A2 (m+1) c2 where
 run:=by
  have h3:=p.run
  rw[show cnt-k=(cnt-(k+1))+1 by omega]at h3
  unfold inA at h3
  rw[if_neg (by rw[p.len];exact hn),if_neg (by rw[h1];decide),if_neg (by omega)]at h3
  exact h3
 own:=by rw[List.map_append,List.map_cons,List.map_nil];exact ho
 len:=by simp[p.len]
 up:=p.up.snoc h2 h1
 le:=by have:=p.le;omega
 blk:=by
  have h3:=p.blk.below hb p.blk.lt
  exact(hg.block ga h3.lt (fun e=>p.apB e.symm)).trans h3
 its:=fun i hi=>by
  obtain⟨b,off,e,q1,q2,q3⟩:=p.its i hi
  have q4:b<w1.heap.size:=yL q1 hb.size
  exact⟨b,off,e,yL q4 hg.size,(World.cell?_of_block (hg.block b q4 (fun e2=>p.apI b off e e2.symm))).trans ((hb.cell (p:=⟨b,off+i,none⟩) q1).trans q2),q3⟩
 low:=p.low
 apB:=fun e=>by
  rcases hat with h3|h3
  ·exact p.apB (h3▸e)
  ·rw[h3]at e;injection e with e;have:=p.blk.lt;have:=hb.size;omega
 apI:=fun b off e0 e=>by
  rcases hat with h3|h3
  ·exact p.apI b off e0 (h3▸e)
  ·rw[h3]at e;injection e with e
   by_cases hc:0<cnt
   ·obtain⟨b',off',e',q1,_⟩:=p.its 0 hc
    rw[e0]at e'
    injection e' with e'
    injection e' with e1 e2
    have:=hb.size
    omega
   ·omega
 bel:=by
  have h3:=p.bel.trans (hb.mono p.bel.size)
  exact h3.trans (below_grown hg h3.size (fun q hq=>(Dc.OwnE.ltB p.own q hq).1))
theorem In.drewN {w wz:World}{E:Nat}{n0:Int}{R:List Int×Int}{K:List Int→List Int×Int}{ni:Int}{g:Nat→Int}{ga cnt k:Nat}{nx:Int}{It:Option Addr}{ci:Nat}{T:TypeId}{out:List Int}{A:Option Addr}{m c:Nat}
 (p:In w wz E n0 R K ni g ga cnt k nx It ci T out A m c)(q:Nat):In w (wz.drewN q) E n0 R K ni g ga cnt k nx It ci T out A m c:=⟨p.run,p.own,p.len,p.up,p.le,p.blk,p.its,p.low,p.apB,p.apI,below_drewN p.bel q⟩
def natO:Value→Nat
 | .int _ z=>z.toNat
 |_=>0
attribute [local irreducible] HD.cells wpList Code.wp
theorem rentries_any {gv:Nat}{h:HD}{d:Int}{A:Option Addr}{n c:Nat}{l:List Int}(w:World)(v:ViewR w gv h d A n c l):
 Calls Tryz.prog 88 #[.pointer (some ⟨gv,0,none⟩)] w (TellL (chase h l n (h.N 8) 14 2 (n+1) [] (h.N 11).toNat 0) w):=by
 have c75:w.cell? ⟨gv,75,none⟩=some (.int .u64 (h.N 8)):=v.blk.cell (rview_N _ _ _ 8 (by decide))
 have c78:w.cell? ⟨gv,78,none⟩=some (.int .u64 (h.N 11)):=v.blk.cell (rview_N _ _ _ 11 (by decide))
 have hn:=v.big
 have HNo:=yH fun(x:Int) (W:World) (hW:Below w.heap.size w W)=>rnoth_any x W (v.below hW)
 have HAr:=yH fun(a:Nat) (W:World) (hW:Below w.heap.size w W)=>rarrTell a W (v.below hW)
 have HAB:=yH v.by_.1
 have HCL:=yH fun a=>aC_le (h:=h) (n:=n) (a:=a) (show l.length≤1000000 by have:=v.len;have:=v.big;omega)
 have h8:=v.ok.N 8
 have h11:=v.ok.N 11
 have he11:h.N 11=((h.N 11).toNat:Int):=by omega
 rw[he11]at c78
 clear v
 generalize h.N 8=n0 at*
 generalize (h.N 11).toNat=a0 at*
 have HR0:=yH (rfl:chase h l n n0 14 2 (n+1) [] a0 0=chase h l n n0 14 2 (n+1) [] a0 0)
 generalize hRR:chase h l n n0 14 2 (n+1) [] a0 0=R at*
 have HR1:=yH hRR
 clear HR0 hRR
 have O0:=yH (show OwnE 27 1 w w.heap.size none 0 0 (([]:List Int).map (Value.int .u64))from OwnE.nil w w.heap.size (yR _))
 have B0:=yH (Below.refl w.heap.size w)
 have UN:=yH (Up.nil n)
 unfold TellL
 go_enter Tryz.func88,Tryz.ntmps88
 go_wp2
 go_loopw [4,6,7] (fun s x y wr=> ∃(out:List Int) (m a la f:Nat) (A1:Option Addr) (c1:Nat),s= .slice A1 m c1∧x= .int .u64 (a:Int)∧y= .int .u64 (la:Int)∧Hid (chase h l n n0 14 2 f out a la=R)∧Hid (OwnE 27 1 wr w.heap.size A1 m c1 (out.map (Value.int .u64)))∧Hid (out.length=m)∧Hid (Up n out)∧Hid ((m:Int)≤n0)∧Hid (la≤n∧n+1≤f+la∧a≤18446744073709551615)∧Hid (Below w.heap.size w wr)) (fun _ _ y _=>n+1-natO y)
 case atStart=>exact⟨[],0,a0,0,n+1,none,0,rfl,rfl,rfl,HR1,O0,yH rfl,UN,yH (by simpa using h8.1),yH ⟨by omega,by omega,by omega⟩,B0⟩
 case round=>
  obtain⟨out,m,a,la,f,A1,c1,rfl,rfl,rfl,hR,hO,hL,hU,hM,hF,hB⟩:=hrel
  have hU2:=hU.out
  unfold Up at hU2
  rw[hL.out]at hU2
  have hm:m≤800000:=by omega
  have hwm:IntKind.u64.wrap (m:Int)=(m:Int):=by rw[IntKind.wrap_u64];omega
  have hM2:=hM.out
  clear hU2
  by_cases hfull:(m:Int)=n0
  ·have HRf:Hid ((out,(0:Int))=R):=yH (by rw[←hR.out];exact(chase_full _ _ _ _ _ _ _ _ _ _ (by rw[hL.out];exact hfull)).symm)
   have d1:decide ((m:Int)<n0)=false:=by simp;omega
   go_wp2
   refine bodyPost_ret (v:= .tuple #[.slice A1 m c1,.int .i64 0]) (by simp[results,Tryz.results88,go_sem,Result.andThen]) rfl ?_
   rw[←HRf.out]
   exact⟨hB.out,A1,m,c1,rfl,hO.out,hL.out⟩
  have d1:decide ((m:Int)<n0)=true:=by simp;omega
  obtain⟨f,rfl⟩: ∃q,f=q+1:=⟨f-1,by have:=hF.out;omega⟩
  have hR2:=hR.out
  unfold chase at hR2
  rw[if_neg (by rw[hL.out];exact hfull)]at hR2
  by_cases hno:nothB n (a:Int)=true
  ·rw[if_pos hno]at hR2
   have HRf:=yH hR2
   have hno':=hno
   clear hR2 hM2 hm
   go_wp2_with(first
    |(go_at_call 121;(refine(HNo.out _ _ hB.out).mono ?_);rintro e w1 ⟨rfl,rfl⟩;(try rw[hno']))
    |fail)
   refine bodyPost_ret (v:= .tuple #[.slice A1 m c1,.int .i64 14]) (by simp[results,Tryz.results88,go_sem,Result.andThen]) rfl ?_
   rw[←HRf.out]
   exact⟨hB.out,A1,m,c1,rfl,hO.out,hL.out⟩
  rw[if_neg hno]at hR2
  have hno':nothB n (a:Int)=false:=by simpa using hno
  have han:0<a∧a<n:=by simp[nothB]at hno';omega
  by_cases hla:a≤la
  ·rw[if_pos hla]at hR2
   have HRf:=yH hR2
   have d2:decide ((a:Int)≤(la:Int))=true:=by simp;omega
   have d3:decide (a≤la)=true:=by simp;omega
   clear hR2 hM2 hm hno han
   go_wp2_with(first
    |(go_at_call 121;(refine(HNo.out _ _ hB.out).mono ?_);rintro e w1 ⟨rfl,rfl⟩;(try rw[hno']))
    |fail)
   refine bodyPost_ret (v:= .tuple #[.slice A1 m c1,.int .i64 12]) (by simp[results,Tryz.results88,go_sem,Result.andThen]) rfl ?_
   rw[←HRf.out]
   exact⟨hB.out,A1,m,c1,rfl,hO.out,hL.out⟩
  rw[if_neg hla]at hR2
  have d2:decide ((a:Int)≤(la:Int))=false:=by simp;omega
  have d3:decide (a≤la)=false:=by simp;omega
  have HA2:=yH fun(W:World) (hW:Below w.heap.size w W)=>HAr.out a W hW
  unfold TellA at HA2
  have hnx:=yH (aX9_nn (h:=h) (E:=n) (a:=a) HAB.out)
  have HG:=yH fun i=>arF_nn (a:=a) HAB.out i
  by_cases hcd:arcode h l n a≠0
  ·rw[if_pos hcd]at hR2
   have HRf:=yH hR2
   have dcd:decide (arcode h l n a=0)=false:=by simpa using hcd
   have dcd2:(arcode h l n a==0)=false:=by simpa using hcd
   have dcd3:(arcode h l n a !=0)=true:=by simpa using hcd
   generalize arcode h l n a=cd at*
   generalize aX9 h l n a=nx at*
   generalize aC9 h l n a=cnt at*
   clear hR2 hM2 hm hno han
   go_wp2_with(first
    |(go_at_call 121;(refine(HNo.out _ _ hB.out).mono ?_);rintro e w1 ⟨rfl,rfl⟩;(try rw[hno']))
    |(go_at_call 119;(refine(HA2.out _ hB.out).mono ?_);rintro e w2 ⟨hb2,A2,c2,rfl,_,_⟩;have B2:=yH (hB.out.trans (hb2.mono hB.out.size));have O2:=yH (hO.out.kept hb2 (yR _));clear hb2)
    |fail)
   refine bodyPost_ret (v:= .tuple #[.slice A1 m c1,.int .i64 cd]) (by simp[results,Tryz.results88,go_sem,Result.andThen]) rfl ?_
   rw[←HRf.out]
   exact⟨B2.out.alloc B2.out.size _,A1,m,c1,rfl,O2.out.alloc _,hL.out⟩
  rw[if_neg hcd]at hR2
  have hcd':arcode h l n a=0:=by simpa using hcd
  obtain⟨nx,hnx1,hnx2⟩: ∃q:Nat,aX9 h l n a=(q:Int)∧q≤18446744073709551615:=⟨_,hnx.out⟩
  simp only[hcd',hnx1,Int.toNat_natCast]at HA2 hR2
  clear hnx hnx1 hcd hcd' HAr hno hM2
  have hcn:=HCL.out a
  generalize aC9 h l n a=cnt at*
  generalize arF (bodyL l a)=g at*
  generalize hK:(fun o=>chase h l n n0 14 2 f o nx a)=K at*
  have HK:=yH hK
  have HRi:=yH hR2
  clear hR2 hK
  have HAN:=yH han
  have HLA:=yH hla
  clear han hla
  go_wp2_with(first
   |(go_at_call 121;(refine(HNo.out _ _ hB.out).mono ?_);rintro e w1 ⟨rfl,rfl⟩;(try rw[hno']))
   |(go_at_call 119;(refine(HA2.out _ hB.out).mono ?_);rintro e w2 ⟨hb2,A2,c2,rfl,hi2,hn2⟩;have Bb2:=yH hb2;have B2:=yH (hB.out.trans (hb2.mono hB.out.size));have O2:=yH (hO.out.kept hb2 (yR _));have I2:=yH hi2;have N2:=yH hn2;clear hb2 hi2 hn2)
   |fail)
  have IN0:Hid (In w (w2.alloc (.cells #[.int .u64 (nx:Int),.slice A2 cnt c2] 221)) n n0 R K 2 g w2.heap.size cnt 0 (nx:Int) A2 c2 221 out A1 m c1):=yH
   {run:=HRi.out,own:=O2.out.alloc _,len:=hL.out,up:=hU.out,le:=hM.out,blk:=Blk.new w2 [.int .u64 (nx:Int),.slice A2 cnt c2] _
    its:=I2.out.below ((Below.refl _ _).alloc (yR _) _)
    low:=B2.out.size
    apB:=fun e=>by have:=(Dc.OwnE.ltB O2.out _ e).2;omega
    apI:=fun b off e e2=>by have h1:=N2.out b off e;have h2:=(Dc.OwnE.ltB hO.out _ e2).2;omega
    bel:=B2.out.alloc B2.out.size _}
  clear hR hO hU B2 O2 I2 N2 HRi HA2
  generalize w2.heap.size=ga at*
  generalize (w2.alloc (.cells #[.int .u64 (nx:Int),.slice A2 cnt c2] 221))=w3 at*
  go_loopw [4,10] (fun s i wz=> ∃(out2:List Int) (m2 k:Nat) (A3:Option Addr) (c3:Nat),k≤cnt∧s= .slice A3 m2 c3∧i= .int .i64 (k:Int)∧Hid (In w wz n n0 R K 2 g ga cnt k (nx:Int) A2 c2 221 out2 A3 m2 c3)) (fun _ i _=>cnt-natO i)
  case atStart=>exact⟨out,m,0,A1,c1,Nat.zero_le _,rfl,rfl,IN0⟩
  case round=>
   obtain⟨out2,m2,k,A3,c3,hk,rfl,rfl,P⟩:=hrel
   have k0:=P.out.blk.cell (i:=0) rfl
   have k1:=P.out.blk.cell (i:=1) rfl
   have hU3:=P.out.up
   unfold Up at hU3
   rw[P.out.len]at hU3
   have hm2:m2≤800000:=by omega
   have hwm2:IntKind.u64.wrap (m2:Int)=(m2:Int):=by rw[IntKind.wrap_u64];omega
   have hM3:=P.out.le
   have HRun:=yH P.out.run
   clear hU3
   by_cases hlt:k<cnt
   ·have e1:decide ((k:Int)<(cnt:Int))=true:=by simp;omega
    have e2:decide (k<cnt)=true:=by simp;omega
    by_cases hfull:(m2:Int)=n0
    ·have e3:decide ((m2:Int)<n0)=false:=by simp;omega
     have HF2:Hid (∀f a' la',chase h l n n0 14 2 f out2 a' la'=R):=yH fun f a' la'=>by
      rw[←HRun.out,inA_full _ _ _ _ _ _ _ _ (by rw[P.out.len];exact hfull) (by rw[←HK.out];exact chase_full _ _ _ _ _ _ _ _ _ _ (by rw[P.out.len];exact hfull))]
      exact chase_full _ _ _ _ _ _ _ _ _ _ (by rw[P.out.len];exact hfull)
     clear hM3 hm2 hfull
     go_wp2
     have hM4:=P.out.le
     exact⟨⟨out2,m2,nx,a,f,A3,c3,rfl,rfl,rfl,yH (HF2.out _ _ _),yH P.out.own,yH P.out.len,yH P.out.up,yH hM4,yH ⟨by have:=HAN.out;omega,by have:=hF.out;have:=HLA.out;omega,hnx2⟩,yH P.out.bel⟩,by have:=HAN.out;have:=HLA.out;simp[natO];omega⟩
    ·have e3:decide ((m2:Int)<n0)=true:=by simp;omega
     obtain⟨b,off,rfl,hb0,cx,_⟩:=P.out.its k hlt
     have hR3:=HRun.out
     rw[show cnt-k=(cnt-(k+1))+1 by omega]at hR3
     unfold inA at hR3
     rw[if_neg (by rw[P.out.len];exact hfull)]at hR3
     by_cases hnn:nothB n (g k)=true
     ·rw[if_pos hnn]at hR3
      have HRf:=yH hR3
      have hnx':=hnn
      clear hR3 hM3 hm2 hfull
      go_wp2_with(first
       |(go_at_call 121;(refine(HNo.out _ _ P.out.bel).mono ?_);rintro e w1 ⟨rfl,rfl⟩;(try rw[hnx']))
       |fail)
      refine bodyPost_ret (v:= .tuple #[.slice A3 m2 c3,.int .i64 2]) (by simp[results,Tryz.results88,go_sem,Result.andThen]) rfl ?_
      rw[←HRf.out]
      exact⟨P.out.bel,A3,m2,c3,rfl,P.out.own,P.out.len⟩
     rw[if_neg hnn]at hR3
     have hnx':nothB n (g k)=false:=by simpa using hnn
     have hg1:0<g k:=by have h1:=(HG.out k).1;simp[nothB]at hnx';omega
     by_cases hor:g k≤lastI out2
     ·rw[if_pos hor]at hR3
      have HRf:=yH hR3
      obtain⟨m3,hm3⟩: ∃q,m2=q+1:=by
       cases m2 with
       |zero=>
        have h1:out2=[]:=List.eq_nil_of_length_eq_zero P.out.len
        rw[h1]at hor
        simp[lastI]at hor
        omega
       |succ q=>exact⟨q,rfl⟩
      have hq:IntKind.i64.wrap ((m2:Int)-1)=(m3:Int):=by rw[IntKind.wrap_i64];omega
      obtain⟨gq,rfl,_,_,hcl⟩:=P.out.own.cell (i:=m3) (by rw[P.out.own.len];omega)
      rw[last_cell out2 m3 (by rw[P.out.len];exact hm3)]at hcl
      generalize lastI out2=lz at*
      have e4:decide ((m2:Int)>0)=true:=by simp;omega
      have e5:decide (0<m2)=true:=by simp;omega
      have e6:decide ((0:Int)<(m2:Int))=true:=by simp;omega
      have e7:decide (g k≤lz)=true:=by simpa using hor
      have HM3:=yH hm3
      have h3l:m3<m2:=by omega
      have e8:decide ((m3:Int)<(m2:Int))=true:=by simp;omega
      clear hR3 hM3 hfull hm3 hnn
      go_upto_region 17 with(first
       |(go_at_call 121;(refine(HNo.out _ _ P.out.bel).mono ?_);rintro e w1 ⟨rfl,rfl⟩;(try rw[hnx']))
       |fail)
      go_quiet (fail)
      go_wp2
      refine bodyPost_ret (v:= .tuple #[.slice (some ⟨gq,0,none⟩) m2 c3,.int .i64 13]) (by simp[results,Tryz.results88,go_sem,Result.andThen]) rfl ?_
      rw[←HRf.out]
      exact⟨below_drewN P.out.bel _,(some ⟨gq,0,none⟩),m2,c3,rfl,(P.out.drewN _).own,P.out.len⟩
     ·by_cases hz:m2=0
      ·have e4:decide ((m2:Int)>0)=false:=by simp;omega
       have e5:decide (0<m2)=false:=by simp;omega
       have e6:decide ((0:Int)<(m2:Int))=false:=by simp;omega
       have HZ:=yH hz
       clear hR3 hM3 hnn hz
       go_upto_region 17 with(first
        |(go_at_call 121;(refine(HNo.out _ _ P.out.bel).mono ?_);rintro e w1 ⟨rfl,rfl⟩;(try rw[hnx']))
        |fail)
       go_quiet (fail)
       have k1':(wr.drewN nq).cell? ⟨ga,1,none⟩=some (.slice (some ⟨b,off,none⟩) cnt c2):=k1
       have cx':(wr.drewN nq).cell? ⟨b,off+k,none⟩=some (.int .u64 (g k)):=cx
       go_wp2_with(first
        |(at_builtin;refine wpList_append_elt_at wordElt rfl (.tmp 86) (.tmp 92) rfl w.heap.size A3 m2 c3 (out2.map (Value.int .u64)) rfl (OwnE.alloc (P.out.drewN nq).own _) ⟨(wr.drewN nq).heap.size,0,none⟩ 1 1 [.int .u64 (g k)] rfl rfl (Blk.news (Blk.new (wr.drewN nq) [.int .u64 (g k)] 27)) (by intro u hu;simp at hu;subst hu;rfl) (by omega) (by omega) (by unfold maxLen;omega) ?_;intro A5 c5 w5 ho5 hg5 hat5;have HO5:=yH ho5;have HG5:=yH hg5;have HT5:=yH hat5;clear ho5 hg5 hat5)
        |fail)
       exact⟨⟨out2++ [g k],m2+1,k+1,A5,c5,by omega,rfl,by go_num,yH (P.out.push hlt hfull hnx' (by omega) ((below_drewN (Below.refl wr.heap.size wr) nq).alloc (yR _) _) HO5.out HG5.out HT5.out)⟩,by simp[natO];omega⟩
      ·obtain⟨m3,hm3⟩: ∃q,m2=q+1:=⟨m2-1,by omega⟩
       have hq:IntKind.i64.wrap ((m2:Int)-1)=(m3:Int):=by rw[IntKind.wrap_i64];omega
       obtain⟨gq,hA3,_,_,hcl⟩:=P.out.own.cell (i:=m3) (by rw[P.out.own.len];omega)
       rw[last_cell out2 m3 (by rw[P.out.len];exact hm3)]at hcl
       subst hA3
       have e4:decide ((m2:Int)>0)=true:=by simp;omega
       have e5:decide (0<m2)=true:=by simp;omega
       have e6:decide ((0:Int)<(m2:Int))=true:=by simp;omega
       have e7:decide (g k≤lastI out2)=false:=by simp;omega
       have HM3:=yH hm3
       have h3l:m3<m2:=by omega
       have e8:decide ((m3:Int)<(m2:Int))=true:=by simp;omega
       clear hR3 hM3 hm3 hnn hz
       go_upto_region 17 with(first
        |(go_at_call 121;(refine(HNo.out _ _ P.out.bel).mono ?_);rintro e w1 ⟨rfl,rfl⟩;(try rw[hnx']))
        |fail)
       go_quiet (fail)
       have k1':(wr.drewN nq).cell? ⟨ga,1,none⟩=some (.slice (some ⟨b,off,none⟩) cnt c2):=k1
       have cx':(wr.drewN nq).cell? ⟨b,off+k,none⟩=some (.int .u64 (g k)):=cx
       go_wp2_with(first
        |(at_builtin;refine wpList_append_elt_at wordElt rfl (.tmp 86) (.tmp 92) rfl w.heap.size (some ⟨gq,0,none⟩) m2 c3 (out2.map (Value.int .u64)) rfl (OwnE.alloc (P.out.drewN nq).own _) ⟨(wr.drewN nq).heap.size,0,none⟩ 1 1 [.int .u64 (g k)] rfl rfl (Blk.news (Blk.new (wr.drewN nq) [.int .u64 (g k)] 27)) (by intro u hu;simp at hu;subst hu;rfl) (by omega) (by omega) (by unfold maxLen;omega) ?_;intro A5 c5 w5 ho5 hg5 hat5;have HO5:=yH ho5;have HG5:=yH hg5;have HT5:=yH hat5;clear ho5 hg5 hat5)
        |fail)
       exact⟨⟨out2++ [g k],m2+1,k+1,A5,c5,by omega,rfl,by go_num,yH (P.out.push hlt hfull hnx' (by omega) ((below_drewN (Below.refl wr.heap.size wr) nq).alloc (yR _) _) HO5.out HG5.out HT5.out)⟩,by simp[natO];omega⟩
   ·obtain rfl:k=cnt:=by omega
    have e1:decide ((k:Int)<(k:Int))=false:=by simp
    have e2:decide (k<k)=false:=by simp
    have HF2:Hid (chase h l n n0 14 2 f out2 nx a=R):=yH (by
     have h1:=HRun.out
     rw[Nat.sub_self]at h1
     unfold inA at h1
     rw[←HK.out]at h1
     exact h1)
    clear hM3
    go_wp2
    have hM4:=P.out.le
    exact⟨⟨out2,m2,nx,a,f,A3,c3,rfl,rfl,rfl,HF2,yH P.out.own,yH P.out.len,yH P.out.up,yH hM4,yH ⟨by have:=HAN.out;omega,by have:=hF.out;have:=HLA.out;omega,hnx2⟩,yH P.out.bel⟩,by have:=HAN.out;have:=HLA.out;simp[natO];omega⟩
end Wb
namespace Wd
open Bytes8 Own8 OwnE Ob Ga Gb Va Wa
open Yp Ye Yh
open Rg (arcode)
def its (g:Nat→Int):Nat→Nat→List (Int×Int)
 |0,_=>[]
 |m+1,i=>(g i,0)::its g m (i+1)
def yl (h:HD)(l:List Int)(E:Nat):Nat→Nat→Nat→List (Int×Int)
 |0,_,_=>[]
 |f+1,a,last=>if nothB E a=true then []else if a≤last then [(0,12)]else if arcode h l E a≠0 then [(0,arcode h l E a)]else its (arF (bodyL l a)) (aC9 h l E a) 0++yl h l E f (aX9 h l E a).toNat a
def step (E:Nat)(n ni:Int)(out:List Int)(x:Int×Int):List Int×Option Int:=
 if x.2≠0 then(out,some x.2)else if nothB E x.1=true then(out,some ni)else if 0<out.length∧x.1≤lastI out then(out,some 13)else if((out++ [x.1]).length:Int)=n then(out++ [x.1],some 0)else(out++ [x.1],none)
def runY (E:Nat)(n na ni:Int):List (Int×Int)→List Int→List Int×Int
 | [],out=>(out,na)
 |x::xs,out=>match step E n ni out x with
  |(o,some c)=>(o,c)
  |(o,none)=>runY E n na ni xs o
theorem runY_cons (E:Nat)(n na ni:Int)(x:Int×Int)(xs:List (Int×Int))(out:List Int):runY E n na ni (x::xs) out=match step E n ni out x with
 |(o,some c)=>(o,c)
 |(o,none)=>runY E n na ni xs o:=rfl
theorem runY_its (E:Nat)(n na ni:Int)(g:Nat→Int)(hg: ∀i,0≤g i)(K:List Int→List Int×Int)(rest:List (Int×Int))
 (h1: ∀o:List Int,(o.length:Int)≠n→runY E n na ni rest o=K o)(h2: ∀o:List Int,(o.length:Int)=n→K o=(o,0)):
 ∀(m i:Nat) (out:List Int),(out.length:Int)≠n→runY E n na ni (its g m i++rest) out=inA K E n ni g m i out:=by
 intro m
 induction m with
 |zero=>intro i out h;exact h1 out h
 |succ m ih=>
  intro i out h
  show runY E n na ni ((g i,0)::(its g m (i+1)++rest)) out=_
  rw[runY_cons]
  unfold inA step
  rw[if_neg h,if_neg (by simp)]
  by_cases h3:nothB E (g i)=true
  ·rw[if_pos h3,if_pos h3]
  ·rw[if_neg h3,if_neg h3]
   by_cases h4:g i≤lastI out
   ·have h6:0<out.length:=by
     rcases Nat.eq_zero_or_pos out.length with h7|h7
     ·have h8:=hg i
      rw[List.eq_nil_of_length_eq_zero h7]at h4
      simp[lastI]at h4
      simp[nothB]at h3
      omega
     ·exact h7
    rw[if_pos ⟨h6,h4⟩,if_pos h4]
   ·rw[if_neg (fun h=>h4 h.2),if_neg h4]
    by_cases h5:(((out++ [g i]).length:Nat):Int)=n
    ·rw[if_pos h5]
     exact(inA_full K E n ni g m (i+1) _ h5 (h2 _ h5)).symm
    ·rw[if_neg h5]
     exact ih (i+1) _ h5
theorem runY_yl (h:HD)(l:List Int)(hA:AllB l)(E:Nat)(n na ni:Int): ∀(f a last:Nat) (out:List Int),last≤E→E+1≤f+last→(out.length:Int)≠n→runY E n na ni (yl h l E f a last) out=chase h l E n na ni f out a last:=by
 intro f
 induction f with
 |zero=>intro a last out h1 h2 _;omega
 |succ f ih=>
  intro a last out h1 h2 h3
  unfold yl chase
  rw[if_neg h3]
  by_cases h4:nothB E (a:Int)=true
  ·rw[if_pos h4,if_pos h4];rfl
  ·rw[if_neg h4,if_neg h4]
   by_cases h5:a≤last
   ·rw[if_pos h5,if_pos h5];rfl
   ·rw[if_neg h5,if_neg h5]
    by_cases h6:arcode h l E a≠0
    ·rw[if_pos h6,if_pos h6,runY_cons]
     unfold step
     rw[if_pos h6]
    ·rw[if_neg h6,if_neg h6]
     have h7:a<E:=by
      have h8:nothB E (a:Int)=false:=by simpa using h4
      simp[nothB]at h8
      omega
     exact runY_its E n na ni _ (fun i=>(arF_nn hA i).1) _ _ (fun o ho=>ih _ _ _ (by omega) (by omega) ho) (fun o ho=>chase_full h l E n na ni f o _ _ ho) _ _ _ h3
def after (E:Nat)(n ni:Int):List (Int×Int)→List Int→Option (List Int)
 | [],out=>some out
 |x::xs,out=>match step E n ni out x with
  |(_,some _)=>none
  |(o,none)=>after E n ni xs o
theorem after_snoc (E:Nat)(n ni:Int)(x:Int×Int): ∀(pre:List (Int×Int)) (out o o2:List Int),after E n ni pre out=some o→step E n ni o x=(o2,none)→after E n ni (pre++ [x]) out=some o2:=by
 intro pre
 induction pre with
 |nil=>
  intro out o o2 h1 h2
  injection h1 with h1
  subst h1
  show(match step E n ni out x with|(_,some _)=>none|(o,none)=>after E n ni [] o)=_
  rw[h2];rfl
 |cons y ys ih=>
  intro out o o2 h1 h2
  show(match step E n ni out y with|(_,some _)=>none|(o,none)=>after E n ni (ys++ [x]) o)=_
  have h3:(match step E n ni out y with|(_,some _)=>none|(o,none)=>after E n ni ys o)=some o:=h1
  cases hs:step E n ni out y with
  |mk a b=>
   rw[hs]at h3
   cases b with
   |none=>exact ih a o o2 h3 h2
   |some c=>cases h3
theorem runY_after (E:Nat)(n na ni:Int): ∀(pre rest:List (Int×Int)) (out o:List Int),after E n ni pre out=some o→runY E n na ni (pre++rest) out=runY E n na ni rest o:=by
 intro pre
 induction pre with
 |nil=>intro rest out o h;injection h with h;rw[h];rfl
 |cons y ys ih=>
  intro rest out o h
  have h3:(match step E n ni out y with|(_,some _)=>none|(o,none)=>after E n ni ys o)=some o:=h
  show runY E n na ni (y::(ys++rest)) out=_
  rw[runY_cons]
  cases hs:step E n ni out y with
  |mk a b=>
   rw[hs]at h3
   cases b with
   |none=>exact ih rest a o h3
   |some c=>cases h3
end Wd
namespace Jh
open Ga
open Go1 (hcode)
attribute [local irreducible] HD.cells wpList Code.wp
end Jh
end Go.Proofs.YtiddkgcafpaekaaGreat
