/-
  Texts beneath the proof.
-/
import Derived.Test.YtlelnfokffflnaaGreatQl36
set_option linter.unusedVariables false
set_option linter.unusedSimpArgs false
set_option maxRecDepth 100000
set_option maxHeartbeats 8000000
open Go.ChangeShapes Go.WideShapes Go.ChangeAt Go.RowKit
namespace Go.Proofs.YtlelnfokffflnaaGreat
namespace Wb
open Bytes8 Blk8 Own8 OwnA OwnE Rows2 Ob Ga Gb Ok7 Rc Va Dc Wa
open Yp Ye Yg Yh
open Rg (arcode)
open Ym (aBC)
structure In (w wz:World)(E:Nat)(n0:Int)(R:List Int×Int)(K:List Int→List Int×Int)(ni:Int)(g:Nat→Int)(ga cnt k:Nat)(nx:Int)(It:Option Addr)(ci:Nat)(T:TypeId)(out:List Int)(A:Option Addr)(m c:Nat):Prop where
 run:inA K E n0 ni g (cnt-k) k out=R
 own:OwnE 27 1 wz w.heap.size A m c (out.map (Value.int .u64))
 len:out.length=m
 up:Up E out
 le:(m:Int)≤n0
 blk:Blk wz ga [.int .u64 nx,.slice It cnt ci] T
 its:InInts .u64 wz It cnt g
 low:w.heap.size≤ga
 apB:ownB A≠some ga
 apI: ∀b off,It=some ⟨b,off,none⟩→ownB A≠some b
 bel:Below w.heap.size w wz
theorem In.push {w r w2:World}{E:Nat}{n0:Int}{R:List Int×Int}{K:List Int→List Int×Int}{ni:Int}{g:Nat→Int}{o cnt k:Nat}{nx:Int}{t:Option Addr}{s:Nat}{T:TypeId}{out:List Int}{A:Option Addr}{m c:Nat}
 (p:In w r E n0 R K ni g o cnt k nx t s T out A m c)(I:k<cnt)(F:(m:Int)≠n0)(y:nothB E (g k)=false)(C:lastI out<g k){w1:World}(d:Below r.heap.size r w1){j:Option Addr}{x:Nat}(D:OwnE 27 1 w2 w.heap.size j (m+1) x (out.map (Value.int .u64)++ [.int .u64 (g k)]))(h:w1.grownBy w2 (ownB A))(f:ownB j=ownB A∨ownB j=some w1.heap.size):
 In w w2 E n0 R K ni g o cnt (k+1) nx t s T (out++ [g k]) j (m+1) x where
 run:=by
  have a:=p.run
  rw[show cnt-k=(cnt-(k+1))+1 by omega]at a
  unfold inA at a
  rw[if_neg (by rw[p.len];exact F),if_neg (by rw[y];decide),if_neg (by omega)]at a
  exact a
 own:=by rw[List.map_append,List.map_cons,List.map_nil];exact D
 len:=by simp[p.len]
 up:=p.up.snoc C y
 le:=by have:=p.le;omega
 blk:=by
  have a:=p.blk.below d p.blk.lt
  exact(h.block o a.lt (fun e=>p.apB e.symm)).trans a
 its:=fun i hi=>by
  obtain⟨b,off,e,n,B,G⟩:=p.its i hi
  have v:b<w1.heap.size:=yL n d.size
  exact⟨b,off,e,yL v h.size,(World.cell?_of_block (h.block b v (fun e2=>p.apI b off e e2.symm))).trans ((d.cell (p:=⟨b,off+i,none⟩) n).trans B),G⟩
 low:=p.low
 apB:=fun e=>by
  rcases f with a|a
  ·exact p.apB (a▸e)
  ·rw[a]at e;injection e with e;have:=p.blk.lt;have:=d.size;omega
 apI:=fun b off e0 e=>by
  rcases f with a|a
  ·exact p.apI b off e0 (a▸e)
  ·rw[a]at e;injection e with e
   by_cases z:0<cnt
   ·obtain⟨H,u,l,n,_⟩:=p.its 0 z
    rw[e0]at l
    injection l with l
    injection l with e1 e2
    have:=d.size
    omega
   ·omega
 bel:=by
  have a:=p.bel.trans (d.mono p.bel.size)
  exact a.trans (below_grown h a.size (fun q hq=>(Dc.OwnE.ltB p.own q hq).1))
theorem In.drewN {w d:World}{E:Nat}{n0:Int}{R:List Int×Int}{K:List Int→List Int×Int}{ni:Int}{g:Nat→Int}{b cnt k:Nat}{nx:Int}{a:Option Addr}{e:Nat}{T:TypeId}{out:List Int}{A:Option Addr}{m c:Nat}
 (p:In w d E n0 R K ni g b cnt k nx a e T out A m c)(q:Nat):In w (d.drewN q) E n0 R K ni g b cnt k nx a e T out A m c:=⟨p.run,p.own,p.len,p.up,p.le,p.blk,p.its,p.low,p.apB,p.apI,below_drewN p.bel q⟩
def natO:Value→Nat
 | .int _ z=>z.toNat
 |_=>0
attribute [local irreducible] HD.cells wpList Code.wp
theorem aGH {gv:Nat}{h:HD}{d:Int}{A:Option Addr}{n c:Nat}{l:List Int}(w:World)(v:ViewR w gv h d A n c l):
 Calls Tryz.prog 105 #[.pointer (some ⟨gv,0,none⟩)] w (TellL (chase h l n (h.N 8) 14 2 (n+1) [] (h.N 11).toNat 0) w):=by
 have aW:w.cell? ⟨gv,75,none⟩=some (.int .u64 (h.N 8)):=v.blk.cell (aFI _ _ _ 8 (by decide))
 have aN:w.cell? ⟨gv,78,none⟩=some (.int .u64 (h.N 11)):=v.blk.cell (aFI _ _ _ 11 (by decide))
 have hn:=v.big
 have H:=yH fun(x:Int) (W:World) (hW:Below w.heap.size w W)=>aLu x W (v.below hW)
 have aD:=yH fun(a:Nat) (W:World) (hW:Below w.heap.size w W)=>aNx a W (v.below hW)
 have aB:=yH v.by_.1
 have aK:=yH fun a=>aP5 (h:=h) (n:=n) (a:=a) (show l.length≤1000000 by have:=v.len;have:=v.big;omega)
 have h8:=v.ok.N 8
 have aV:=v.ok.N 11
 have aA:h.N 11=((h.N 11).toNat:Int):=by omega
 rw[aA]at aN
 clear v
 generalize h.N 8=n0 at*
 generalize (h.N 11).toNat=a0 at*
 have aM:=yH (rfl:chase h l n n0 14 2 (n+1) [] a0 0=chase h l n n0 14 2 (n+1) [] a0 0)
 generalize az:chase h l n n0 14 2 (n+1) [] a0 0=R at*
 have aH:=yH az
 clear aM az
 have O0:=yH (show OwnE 27 1 w w.heap.size none 0 0 (([]:List Int).map (Value.int .u64))from OwnE.nil w w.heap.size (yR _))
 have B0:=yH (Below.refl w.heap.size w)
 have UN:=yH (Up.nil n)
 unfold TellL
 go_enter Tryz.func105,Tryz.ntmps105
 go_wp2
 go_loopw [4,6,7] (fun s x y wr=> ∃(out:List Int) (m a la f:Nat) (V:Option Addr) (L:Nat),s= .slice V m L∧x= .int .u64 (a:Int)∧y= .int .u64 (la:Int)∧Hid (chase h l n n0 14 2 f out a la=R)∧Hid (OwnE 27 1 wr w.heap.size V m L (out.map (Value.int .u64)))∧Hid (out.length=m)∧Hid (Up n out)∧Hid ((m:Int)≤n0)∧Hid (la≤n∧n+1≤f+la∧a≤18446744073709551615)∧Hid (Below w.heap.size w wr)) (fun _ _ y _=>n+1-natO y)
 case atStart=>exact⟨[],0,a0,0,n+1,none,0,rfl,rfl,rfl,aH,O0,yH rfl,UN,yH (by simpa using h8.1),yH ⟨by omega,by omega,by omega⟩,B0⟩
 case round=>
  obtain⟨out,m,a,la,f,V,L,rfl,rfl,rfl,hR,hO,hL,hU,hM,hF,M⟩:=hrel
  have av:=hU.out
  unfold Up at av
  rw[hL.out]at av
  have hm:m≤800000:=by omega
  have aU:IntKind.u64.wrap (m:Int)=(m:Int):=by rw[IntKind.wrap_u64];omega
  have ae:=hM.out
  clear av
  by_cases j:(m:Int)=n0
  ·have C:Hid ((out,(0:Int))=R):=yH (by rw[←hR.out];exact(aAN _ _ _ _ _ _ _ _ _ _ (by rw[hL.out];exact j)).symm)
   have d1:decide ((m:Int)<n0)=false:=by simp;omega
   go_wp2
   refine bodyPost_ret (v:= .tuple #[.slice V m L,.int .i64 0]) (by simp[results,Tryz.results105,go_sem,Result.andThen]) rfl ?_
   rw[←C.out]
   exact⟨M.out,V,m,L,rfl,hO.out,hL.out⟩
  have d1:decide ((m:Int)<n0)=true:=by simp;omega
  obtain⟨f,rfl⟩: ∃q,f=q+1:=⟨f-1,by have:=hF.out;omega⟩
  have t:=hR.out
  unfold chase at t
  rw[if_neg (by rw[hL.out];exact j)]at t
  by_cases hno:nothB n (a:Int)=true
  ·rw[if_pos hno]at t
   have C:=yH t
   have D:=hno
   clear t ae hm
   go_wp2_with(first
    |(go_at_call 101;(refine(H.out _ _ M.out).mono ?_);rintro e w1 ⟨rfl,rfl⟩;(try rw[D]))
    |fail)
   refine bodyPost_ret (v:= .tuple #[.slice V m L,.int .i64 14]) (by simp[results,Tryz.results105,go_sem,Result.andThen]) rfl ?_
   rw[←C.out]
   exact⟨M.out,V,m,L,rfl,hO.out,hL.out⟩
  rw[if_neg hno]at t
  have D:nothB n (a:Int)=false:=by simpa using hno
  have ah:0<a∧a<n:=by simp[nothB]at D;omega
  by_cases ag:a≤la
  ·rw[if_pos ag]at t
   have C:=yH t
   have d2:decide ((a:Int)≤(la:Int))=true:=by simp;omega
   have d3:decide (a≤la)=true:=by simp;omega
   clear t ae hm hno ah
   go_wp2_with(first
    |(go_at_call 101;(refine(H.out _ _ M.out).mono ?_);rintro e w1 ⟨rfl,rfl⟩;(try rw[D]))
    |fail)
   refine bodyPost_ret (v:= .tuple #[.slice V m L,.int .i64 12]) (by simp[results,Tryz.results105,go_sem,Result.andThen]) rfl ?_
   rw[←C.out]
   exact⟨M.out,V,m,L,rfl,hO.out,hL.out⟩
  rw[if_neg ag]at t
  have d2:decide ((a:Int)≤(la:Int))=false:=by simp;omega
  have d3:decide (a≤la)=false:=by simp;omega
  have ab:=yH fun(W:World) (hW:Below w.heap.size w W)=>aD.out a W hW
  unfold TellA at ab
  have hnx:=yH (aOj (h:=h) (E:=n) (a:=a) aB.out)
  have HG:=yH fun i=>aIO (a:=a) aB.out i
  by_cases hcd:arcode h l n a≠0
  ·rw[if_pos hcd]at t
   have C:=yH t
   have aY:decide (arcode h l n a=0)=false:=by simpa using hcd
   have aQ:(arcode h l n a==0)=false:=by simpa using hcd
   have aR:(arcode h l n a !=0)=true:=by simpa using hcd
   generalize arcode h l n a=cd at*
   generalize aX9 h l n a=nx at*
   generalize aC9 h l n a=cnt at*
   clear t ae hm hno ah
   go_wp2_with(first
    |(go_at_call 101;(refine(H.out _ _ M.out).mono ?_);rintro e w1 ⟨rfl,rfl⟩;(try rw[D]))
    |(go_at_call 99;(refine(ab.out _ M.out).mono ?_);rintro e w2 ⟨G,A2,c2,rfl,_,_⟩;have B2:=yH (M.out.trans (G.mono M.out.size));have O2:=yH (hO.out.kept G (yR _));clear G)
    |fail)
   refine bodyPost_ret (v:= .tuple #[.slice V m L,.int .i64 cd]) (by simp[results,Tryz.results105,go_sem,Result.andThen]) rfl ?_
   rw[←C.out]
   exact⟨B2.out.alloc B2.out.size _,V,m,L,rfl,O2.out.alloc _,hL.out⟩
  rw[if_neg hcd]at t
  have ak:arcode h l n a=0:=by simpa using hcd
  obtain⟨nx,aj,al⟩: ∃q:Nat,aX9 h l n a=(q:Int)∧q≤18446744073709551615:=⟨_,hnx.out⟩
  simp only[ak,aj,Int.toNat_natCast]at ab t
  clear hnx aj hcd ak aD hno ae
  have aZ:=aK.out a
  generalize aC9 h l n a=cnt at*
  generalize arF (bodyL l a)=g at*
  generalize hK:(fun o=>chase h l n n0 14 2 f o nx a)=K at*
  have HK:=yH hK
  have aC:=yH t
  clear t hK
  have af:=yH ah
  have ai:=yH ag
  clear ah ag
  go_wp2_with(first
   |(go_at_call 101;(refine(H.out _ _ M.out).mono ?_);rintro e w1 ⟨rfl,rfl⟩;(try rw[D]))
   |(go_at_call 99;(refine(ab.out _ M.out).mono ?_);rintro e w2 ⟨G,A2,c2,rfl,aE,ay⟩;have aS:=yH G;have B2:=yH (M.out.trans (G.mono M.out.size));have O2:=yH (hO.out.kept G (yR _));have I2:=yH aE;have N2:=yH ay;clear G aE ay)
   |fail)
  have aJ:Hid (In w (w2.alloc (.cells #[.int .u64 (nx:Int),.slice A2 cnt c2] 198)) n n0 R K 2 g w2.heap.size cnt 0 (nx:Int) A2 c2 198 out V m L):=yH
   {run:=aC.out,own:=O2.out.alloc _,len:=hL.out,up:=hU.out,le:=hM.out,blk:=Blk.new w2 [.int .u64 (nx:Int),.slice A2 cnt c2] _
    its:=I2.out.below ((Below.refl _ _).alloc (yR _) _)
    low:=B2.out.size
    apB:=fun e=>by have:=(Dc.OwnE.ltB O2.out _ e).2;omega
    apI:=fun b Y e e2=>by have h1:=N2.out b Y e;have h2:=(Dc.OwnE.ltB hO.out _ e2).2;omega
    bel:=B2.out.alloc B2.out.size _}
  clear hR hO hU B2 O2 I2 N2 aC ab
  generalize w2.heap.size=ga at*
  generalize (w2.alloc (.cells #[.int .u64 (nx:Int),.slice A2 cnt c2] 198))=w3 at*
  go_loopw [4,10] (fun s i wz=> ∃(p:List Int) (r k:Nat) (A3:Option Addr) (c3:Nat),k≤cnt∧s= .slice A3 r c3∧i= .int .i64 (k:Int)∧Hid (In w wz n n0 R K 2 g ga cnt k (nx:Int) A2 c2 198 p A3 r c3)) (fun _ i _=>cnt-natO i)
  case atStart=>exact⟨out,m,0,V,L,Nat.zero_le _,rfl,rfl,aJ⟩
  case round=>
   obtain⟨p,r,k,A3,c3,hk,rfl,rfl,P⟩:=hrel
   have k0:=P.out.blk.cell (i:=0) rfl
   have k1:=P.out.blk.cell (i:=1) rfl
   have ap:=P.out.up
   unfold Up at ap
   rw[P.out.len]at ap
   have ax:r≤800000:=by omega
   have aP:IntKind.u64.wrap (r:Int)=(r:Int):=by rw[IntKind.wrap_u64];omega
   have X:=P.out.le
   have aa:=yH P.out.run
   clear ap
   by_cases aw:k<cnt
   ·have e1:decide ((k:Int)<(cnt:Int))=true:=by simp;omega
    have e2:decide (k<cnt)=true:=by simp;omega
    by_cases j:(r:Int)=n0
    ·have e3:decide ((r:Int)<n0)=false:=by simp;omega
     have ao:Hid (∀f a' la',chase h l n n0 14 2 f p a' la'=R):=yH fun f a' la'=>by
      rw[←aa.out,aFL _ _ _ _ _ _ _ _ (by rw[P.out.len];exact j) (by rw[←HK.out];exact aAN _ _ _ _ _ _ _ _ _ _ (by rw[P.out.len];exact j))]
      exact aAN _ _ _ _ _ _ _ _ _ _ (by rw[P.out.len];exact j)
     clear X ax j
     go_wp2
     have an:=P.out.le
     exact⟨⟨p,r,nx,a,f,A3,c3,rfl,rfl,rfl,yH (ao.out _ _ _),yH P.out.own,yH P.out.len,yH P.out.up,yH an,yH ⟨by have:=af.out;omega,by have:=hF.out;have:=ai.out;omega,al⟩,yH P.out.bel⟩,by have:=af.out;have:=ai.out;simp[natO];omega⟩
    ·have e3:decide ((r:Int)<n0)=true:=by simp;omega
     obtain⟨b,Y,rfl,aX,cx,_⟩:=P.out.its k aw
     have B:=aa.out
     rw[show cnt-k=(cnt-(k+1))+1 by omega]at B
     unfold inA at B
     rw[if_neg (by rw[P.out.len];exact j)]at B
     by_cases J:nothB n (g k)=true
     ·rw[if_pos J]at B
      have C:=yH B
      have z:=J
      clear B X ax j
      go_wp2_with(first
       |(go_at_call 101;(refine(H.out _ _ P.out.bel).mono ?_);rintro e w1 ⟨rfl,rfl⟩;(try rw[z]))
       |fail)
      refine bodyPost_ret (v:= .tuple #[.slice A3 r c3,.int .i64 2]) (by simp[results,Tryz.results105,go_sem,Result.andThen]) rfl ?_
      rw[←C.out]
      exact⟨P.out.bel,A3,r,c3,rfl,P.out.own,P.out.len⟩
     rw[if_neg J]at B
     have z:nothB n (g k)=false:=by simpa using J
     have aT:0<g k:=by have h1:=(HG.out k).1;simp[nothB]at z;omega
     by_cases ad:g k≤lastI p
     ·rw[if_pos ad]at B
      have C:=yH B
      obtain⟨m3,I⟩: ∃q,r=q+1:=by
       cases r with
       |zero=>
        have h1:p=[]:=List.eq_nil_of_length_eq_zero P.out.len
        rw[h1]at ad
        simp[lastI]at ad
        omega
       |succ q=>exact⟨q,rfl⟩
      have hq:IntKind.i64.wrap ((r:Int)-1)=(m3:Int):=by rw[IntKind.wrap_i64];omega
      obtain⟨gq,rfl,_,_,ar⟩:=P.out.own.cell (i:=m3) (by rw[P.out.own.len];omega)
      rw[aCP p m3 (by rw[P.out.len];exact I)]at ar
      generalize lastI p=lz at*
      have e4:decide ((r:Int)>0)=true:=by simp;omega
      have e5:decide (0<r)=true:=by simp;omega
      have e6:decide ((0:Int)<(r:Int))=true:=by simp;omega
      have e7:decide (g k≤lz)=true:=by simpa using ad
      have aF:=yH I
      have aO:m3<r:=by omega
      have e8:decide ((m3:Int)<(r:Int))=true:=by simp;omega
      clear B X j I J
      go_upto_region 17 with(first
       |(go_at_call 101;(refine(H.out _ _ P.out.bel).mono ?_);rintro e w1 ⟨rfl,rfl⟩;(try rw[z]))
       |fail)
      go_quiet (fail)
      go_wp2
      refine bodyPost_ret (v:= .tuple #[.slice (some ⟨gq,0,none⟩) r c3,.int .i64 13]) (by simp[results,Tryz.results105,go_sem,Result.andThen]) rfl ?_
      rw[←C.out]
      exact⟨below_drewN P.out.bel _,(some ⟨gq,0,none⟩),r,c3,rfl,(P.out.drewN _).own,P.out.len⟩
     ·by_cases hz:r=0
      ·have e4:decide ((r:Int)>0)=false:=by simp;omega
       have e5:decide (0<r)=false:=by simp;omega
       have e6:decide ((0:Int)<(r:Int))=false:=by simp;omega
       have HZ:=yH hz
       clear B X J hz
       go_upto_region 17 with(first
        |(go_at_call 101;(refine(H.out _ _ P.out.bel).mono ?_);rintro e w1 ⟨rfl,rfl⟩;(try rw[z]))
        |fail)
       go_quiet (fail)
       have aL:(wr.drewN nq).cell? ⟨ga,1,none⟩=some (.slice (some ⟨b,Y,none⟩) cnt c2):=k1
       have aG:(wr.drewN nq).cell? ⟨b,Y+k,none⟩=some (.int .u64 (g k)):=cx
       go_wp2_with(first
        |(at_builtin;refine aAe aBC rfl (.tmp 86) (.tmp 92) rfl w.heap.size A3 r c3 (p.map (Value.int .u64)) rfl (OwnE.alloc (P.out.drewN nq).own _) ⟨(wr.drewN nq).heap.size,0,none⟩ 1 1 [.int .u64 (g k)] rfl rfl (Blk.news (Blk.new (wr.drewN nq) [.int .u64 (g k)] 27)) (by intro u hu;simp at hu;subst hu;rfl) (by omega) (by omega) (by unfold maxLen;omega) ?_;intro A5 c5 w5 Z ac F;have aq:=yH Z;have au:=yH ac;have am:=yH F;clear Z ac F)
        |fail)
       exact⟨⟨p++ [g k],r+1,k+1,A5,c5,by omega,rfl,by go_num,yH (P.out.push aw j z (by omega) ((below_drewN (Below.refl wr.heap.size wr) nq).alloc (yR _) _) aq.out au.out am.out)⟩,by simp[natO];omega⟩
      ·obtain⟨m3,I⟩: ∃q,r=q+1:=⟨r-1,by omega⟩
       have hq:IntKind.i64.wrap ((r:Int)-1)=(m3:Int):=by rw[IntKind.wrap_i64];omega
       obtain⟨gq,aI,_,_,ar⟩:=P.out.own.cell (i:=m3) (by rw[P.out.own.len];omega)
       rw[aCP p m3 (by rw[P.out.len];exact I)]at ar
       subst aI
       have e4:decide ((r:Int)>0)=true:=by simp;omega
       have e5:decide (0<r)=true:=by simp;omega
       have e6:decide ((0:Int)<(r:Int))=true:=by simp;omega
       have e7:decide (g k≤lastI p)=false:=by simp;omega
       have aF:=yH I
       have aO:m3<r:=by omega
       have e8:decide ((m3:Int)<(r:Int))=true:=by simp;omega
       clear B X I J hz
       go_upto_region 17 with(first
        |(go_at_call 101;(refine(H.out _ _ P.out.bel).mono ?_);rintro e w1 ⟨rfl,rfl⟩;(try rw[z]))
        |fail)
       go_quiet (fail)
       have aL:(wr.drewN nq).cell? ⟨ga,1,none⟩=some (.slice (some ⟨b,Y,none⟩) cnt c2):=k1
       have aG:(wr.drewN nq).cell? ⟨b,Y+k,none⟩=some (.int .u64 (g k)):=cx
       go_wp2_with(first
        |(at_builtin;refine aAe aBC rfl (.tmp 86) (.tmp 92) rfl w.heap.size (some ⟨gq,0,none⟩) r c3 (p.map (Value.int .u64)) rfl (OwnE.alloc (P.out.drewN nq).own _) ⟨(wr.drewN nq).heap.size,0,none⟩ 1 1 [.int .u64 (g k)] rfl rfl (Blk.news (Blk.new (wr.drewN nq) [.int .u64 (g k)] 27)) (by intro u hu;simp at hu;subst hu;rfl) (by omega) (by omega) (by unfold maxLen;omega) ?_;intro A5 c5 w5 Z ac F;have aq:=yH Z;have au:=yH ac;have am:=yH F;clear Z ac F)
        |fail)
       exact⟨⟨p++ [g k],r+1,k+1,A5,c5,by omega,rfl,by go_num,yH (P.out.push aw j z (by omega) ((below_drewN (Below.refl wr.heap.size wr) nq).alloc (yR _) _) aq.out au.out am.out)⟩,by simp[natO];omega⟩
   ·obtain rfl:k=cnt:=by omega
    have e1:decide ((k:Int)<(k:Int))=false:=by simp
    have e2:decide (k<k)=false:=by simp
    have ao:Hid (chase h l n n0 14 2 f p nx a=R):=yH (by
     have h1:=aa.out
     rw[Nat.sub_self]at h1
     unfold inA at h1
     rw[←HK.out]at h1
     exact h1)
    clear X
    go_wp2
    have an:=P.out.le
    exact⟨⟨p,r,nx,a,f,A3,c3,rfl,rfl,rfl,ao,yH P.out.own,yH P.out.len,yH P.out.up,yH an,yH ⟨by have:=af.out;omega,by have:=hF.out;have:=ai.out;omega,al⟩,yH P.out.bel⟩,by have:=af.out;have:=ai.out;simp[natO];omega⟩
end Wb
namespace Wd
open Bytes8 Own8 OwnE Ob Ga Gb Va Wa
open Yp Ye Yh
open Rg (arcode)
def its (g:Nat→Int):Nat→Nat→List (Int×Int)
 |0,_=>[]
 |m+1,i=>(g i,0)::its g m (i+1)
def yl (h:HD)(l:List Int)(E:Nat):Nat→Nat→Nat→List (Int×Int)
 |0,_,_=>[]
 |f+1,a,last=>if nothB E a=true then []else if a≤last then [(0,12)]else if arcode h l E a≠0 then [(0,arcode h l E a)]else its (arF (bodyL l a)) (aC9 h l E a) 0++yl h l E f (aX9 h l E a).toNat a
def step (E:Nat)(n ni:Int)(out:List Int)(x:Int×Int):List Int×Option Int:=
 if x.2≠0 then(out,some x.2)else if nothB E x.1=true then(out,some ni)else if 0<out.length∧x.1≤lastI out then(out,some 13)else if((out++ [x.1]).length:Int)=n then(out++ [x.1],some 0)else(out++ [x.1],none)
def runY (E:Nat)(n na ni:Int):List (Int×Int)→List Int→List Int×Int
 | [],out=>(out,na)
 |x::xs,out=>match step E n ni out x with
  |(o,some c)=>(o,c)
  |(o,none)=>runY E n na ni xs o
theorem aBy (E:Nat)(n na ni:Int)(x:Int×Int)(xs:List (Int×Int))(out:List Int):runY E n na ni (x::xs) out=match step E n ni out x with
 |(o,some c)=>(o,c)
 |(o,none)=>runY E n na ni xs o:=rfl
theorem aNz (E:Nat)(n na ni:Int)(g:Nat→Int)(f: ∀i,0≤g i)(K:List Int→List Int×Int)(rest:List (Int×Int))
 (k: ∀o:List Int,(o.length:Int)≠n→runY E n na ni rest o=K o)(e: ∀o:List Int,(o.length:Int)=n→K o=(o,0)):
 ∀(m i:Nat) (out:List Int),(out.length:Int)≠n→runY E n na ni (its g m i++rest) out=inA K E n ni g m i out:=by
 intro m
 induction m with
 |zero=>intro i out h;exact k out h
 |succ m ih=>
  intro i out h
  show runY E n na ni ((g i,0)::(its g m (i+1)++rest)) out=_
  rw[aBy]
  unfold inA step
  rw[if_neg h,if_neg (by simp)]
  by_cases c:nothB E (g i)=true
  ·rw[if_pos c,if_pos c]
  ·rw[if_neg c,if_neg c]
   by_cases a:g i≤lastI out
   ·have j:0<out.length:=by
     rcases Nat.eq_zero_or_pos out.length with d|d
     ·have l:=f i
      rw[List.eq_nil_of_length_eq_zero d]at a
      simp[lastI]at a
      simp[nothB]at c
      omega
     ·exact d
    rw[if_pos ⟨j,a⟩,if_pos a]
   ·rw[if_neg (fun h=>a h.2),if_neg a]
    by_cases b:(((out++ [g i]).length:Nat):Int)=n
    ·rw[if_pos b]
     exact(aFL K E n ni g m (i+1) _ b (e _ b)).symm
    ·rw[if_neg b]
     exact ih (i+1) _ b
theorem aLv (h:HD)(l:List Int)(p:AllB l)(E:Nat)(n na ni:Int): ∀(f a b:Nat) (out:List Int),b≤E→E+1≤f+b→(out.length:Int)≠n→runY E n na ni (yl h l E f a b) out=chase h l E n na ni f out a b:=by
 intro f
 induction f with
 |zero=>intro a b out m j _;omega
 |succ f ih=>
  intro a b out m j g
  unfold yl chase
  rw[if_neg g]
  by_cases c:nothB E (a:Int)=true
  ·rw[if_pos c,if_pos c];rfl
  ·rw[if_neg c,if_neg c]
   by_cases e:a≤b
   ·rw[if_pos e,if_pos e];rfl
   ·rw[if_neg e,if_neg e]
    by_cases d:arcode h l E a≠0
    ·rw[if_pos d,if_pos d,aBy]
     unfold step
     rw[if_pos d]
    ·rw[if_neg d,if_neg d]
     have q:a<E:=by
      have k:nothB E (a:Int)=false:=by simpa using c
      simp[nothB]at k
      omega
     exact aNz E n na ni _ (fun i=>(aIO p i).1) _ _ (fun o ho=>ih _ _ _ (by omega) (by omega) ho) (fun o ho=>aAN h l E n na ni f o _ _ ho) _ _ _ g
def after (E:Nat)(n ni:Int):List (Int×Int)→List Int→Option (List Int)
 | [],out=>some out
 |x::xs,out=>match step E n ni out x with
  |(_,some _)=>none
  |(o,none)=>after E n ni xs o
theorem aE4 (E:Nat)(n ni:Int)(x:Int×Int): ∀(d:List (Int×Int)) (out o e:List Int),after E n ni d out=some o→step E n ni o x=(e,none)→after E n ni (d++ [x]) out=some e:=by
 intro d
 induction d with
 |nil=>
  intro out o e f g
  injection f with f
  subst f
  show(match step E n ni out x with|(_,some _)=>none|(o,none)=>after E n ni [] o)=_
  rw[g];rfl
 |cons y ys ih=>
  intro out o e f g
  show(match step E n ni out y with|(_,some _)=>none|(o,none)=>after E n ni (ys++ [x]) o)=_
  have h:(match step E n ni out y with|(_,some _)=>none|(o,none)=>after E n ni ys o)=some o:=f
  cases hs:step E n ni out y with
  |mk a b=>
   rw[hs]at h
   cases b with
   |none=>exact ih a o e h g
   |some c=>cases h
theorem aB6 (E:Nat)(n na ni:Int): ∀(d rest:List (Int×Int)) (out o:List Int),after E n ni d out=some o→runY E n na ni (d++rest) out=runY E n na ni rest o:=by
 intro d
 induction d with
 |nil=>intro rest out o h;injection h with h;rw[h];rfl
 |cons y ys ih=>
  intro rest out o h
  have e:(match step E n ni out y with|(_,some _)=>none|(o,none)=>after E n ni ys o)=some o:=h
  show runY E n na ni (y::(ys++rest)) out=_
  rw[aBy]
  cases hs:step E n ni out y with
  |mk a b=>
   rw[hs]at e
   cases b with
   |none=>exact ih rest a o e
   |some c=>cases e
end Wd
namespace Jh
open Ga
open Go1 (hcode)
attribute [local irreducible] HD.cells wpList Code.wp
end Jh
end Go.Proofs.YtlelnfokffflnaaGreat
