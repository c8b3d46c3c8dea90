/-
  Texts beneath.
-/
import Derived.Test.YteaikbodkgjkdaaGreatQl39
set_option linter.unusedVariables false
set_option linter.unusedSimpArgs false
set_option maxRecDepth 100000
set_option maxHeartbeats 8000000
open Go.ChangeShapes Go.WideShapes Go.ChangeAt Go.RowKit
namespace Go.Proofs.YteaikbodkgjkdaaGreat
namespace Jb
open Bytes8 Blk8 Own8 OwnE Rows2 Ga Gb Gf Gj Ma Na Np Ns Nt Nu Rc Rn Rp Rr Va Wa Ls Pr8
open Go1 (hcode)
open Yz (OwnE.farE)
structure FileAt (w:World)(gf gv:Nat)(h:HD)(A:Option Addr)(E c:Nat)(l:List Int)(P:Option Addr)(n cp:Nat)(out:List Int)(cd:Int):Prop where
 blk:Blk w gf [.pointer (some ⟨gv,0,none⟩),.slice P n cp,.int .i64 cd] 93
 view:ViewAt w gv h A E c l
 cm:c≤maxLen
 e8:E≤800000
 ints:InInts .u64 w P n (fun i=>out.getD i 0)
 len:out.length=n
 nn: ∀y∈out,0≤y∧y≤18446744073709551615
 nb:n≤800000
theorem FileAt.below {w w':World}{gf b:Nat}{h:HD}{A:Option Addr}{E c:Nat}{l:List Int}{P:Option Addr}{n cp:Nat}{out:List Int}{cd:Int}(f:FileAt w gf b h A E c l P n cp out cd)(a:Below w.heap.size w w'):FileAt w' gf b h A E c l P n cp out cd:=
 ⟨f.blk.below a f.blk.lt,f.view.below a,f.cm,f.e8,f.ints.below a,f.len,f.nn,f.nb⟩
def JOpened (l:List Int)(E:Nat)(w:World)(e:Ending)(w':World):Prop:= ∃(gf gv:Nat) (A2:Option Addr) (c2:Nat) (P:Option Addr) (k cp:Nat),e= .returned (.tuple #[.pointer (some ⟨gf,0,none⟩),.int .i64 0])∧FileAt w' gf gv (hdOf l) A2 E c2 (l.take E) P k cp (chase (hdOf l) (l.take E) E ((hdOf l).N 8) 14 2 (E+1) [] ((hdOf l).N 11).toNat 0).1 (chase (hdOf l) (l.take E) E ((hdOf l).N 8) 14 2 (E+1) [] ((hdOf l).N 11).toNat 0).2∧Below w.heap.size w w'
attribute [local irreducible] HD.cells wpList Code.wp
theorem aE6 (l:List Int)(A:Option Addr)(n c:Nat)(w:World)(J:Bytes w A l)(hL:l.length=n)(hn:n≤800000)(hc:n≤c)(hz:hcode l n=0)(E:Nat)(hE:endV (hdOf l)=(E:Int))(t:endB (hdOf l)=true)(V:E≤n)(D:(hdOf l).Ok 21):
 Calls Tryz.prog 12 #[.slice A n c] w (JOpened l E w):=by
 have j:=yH (open_fine l A n c w J hL hn hc hz E hE t V D)
 unfold Opened at j
 have f:=J.1
 have L:(l.take E).length≤800000:=by rw[List.length_take];omega
 have ad:=yH (f.take E)
 have HF:=yH (aEr (h:=hdOf l) (f.take E) (E:=E) (n:=(hdOf l).N 8) (na:=14) (ni:=2) (E+1) [] ((hdOf l).N 11).toNat 0 (aLB E))
 have x:E≤800000:=by omega
 have Y:=yH D
 unfold JOpened
 clear J hz hE t
 generalize hdOf l=H at*
 generalize l.take E=lE at*
 have o:=yH fun(W:World) (d:Nat) (I:Option Addr) (y:Nat) (v:ViewAt W d H I E y lE) (hcm:y≤maxLen)=>Wl.aHL W v hcm x L ad.out Y.out
 unfold TellL at o
 generalize chase H lE E (H.N 8) 14 2 (E+1) [] (H.N 11).toNat 0=R at*
 obtain⟨out,cd⟩:=R
 dsimp only at*
 go_enter Tryz.func12,Tryz.ntmps12
 go_upto_region 5 with(first
  |(go_at_call 38;((refine j.out.mono ?_);rintro e w1 ⟨d,I,y,rfl,_,hv,z,F⟩;have HV:=yH hv;have G:=yH F;have B:=yH z;clear hv F z))
  |fail)
 have X:=yH (Blk.new w1 [.pointer (some ⟨d,0,none⟩),.slice none 0 0,.int .i64 0] 93)
 have b2:=yH ((yB w1.heap.size w1).alloc (yR _) (.cells #[.pointer (some ⟨d,0,none⟩),.slice none 0 0,.int .i64 0] 93))
 have ab:(w1.alloc (.cells #[.pointer (some ⟨d,0,none⟩),.slice none 0 0,.int .i64 0] 93)).heap.size=w1.heap.size+1:=by simp
 have Z:=yH (HV.out.below b2.out)
 have aa:=yH (o.out _ d I y Z.out B.out)
 have m:=G.out.size
 clear j o
 generalize (w1.alloc (.cells #[.pointer (some ⟨d,0,none⟩),.slice none 0 0,.int .i64 0] 93))=w2 at*
 have B2:=yH (G.out.trans (b2.out.mono G.out.size))
 obtain⟨b,u⟩: ∃g,w1.heap.size=g:=⟨_,rfl⟩
 rw[u]at X ab b2 m
 clear G
 go_upto_region 6 with(first
  |(go_at_call 39;((refine aa.out.mono ?_);rintro e w3 ⟨q,P,k,cp,rfl,s,C⟩;have B3:=yH q;have O3:=yH s;have L3:=yH C;have r:=X.out.below q X.out.lt;have k1:=r.cell (i:=1) rfl;have k2:=r.cell (i:=2) rfl;have z1:=r.frozen 1;have z2:=r.frozen 2;clear q s C))
  |fail)
 have BF:=yH (((b2.out.trans (B3.out.mono (by omega))).setCell (p:=⟨b,1,none⟩) (yR _) (.slice P k cp)).setCell (p:=⟨b,2,none⟩) (yR _) (.int .i64 cd))
 have BB:=yH (((B2.out.trans (B3.out.mono B2.out.size)).setCell (p:=⟨b,1,none⟩) m (.slice P k cp)).setCell (p:=⟨b,2,none⟩) m (.int .i64 cd))
 have RF:=yH ((r.set_ 1 (.slice P k cp)).set_ 2 (.int .i64 cd))
 have OF:=yH (OwnE.farE (OwnE.farE O3.out (a:=⟨b,1,none⟩) (by show b<_;omega) (.slice P k cp)) (a:=⟨b,2,none⟩) (by show b<_;omega) (.int .i64 cd))
 have L5:=L3.out
 have M:=HF.out
 have ac:=yH (HV.out.below (by rw[u];exact BF.out))
 clear k1 k2 z1 z2 r
 go_wp2
 go_ret2
 refine⟨b,d,I,y,P,k,cp,rfl,⟨RF.out,ac.out,B.out,x,aGH OF.out L5 M.2,L5,M.2,?_⟩,BB.out⟩
 have h6:=M.1
 unfold Up at h6
 omega
theorem at_in {w:World}{gf d:Nat}{h:HD}{A:Option Addr}{E c:Nat}{l:List Int}{P:Option Addr}{n cp:Nat}{out:List Int}{cd:Int}(f:FileAt w gf d h A E c l P n cp out cd)(x:Nat)(g:x<n):Calls Tryz.prog 92 #[.pointer (some ⟨gf,0,none⟩),.int .i64 (x:Int)] w fun e w'=>e= .returned (.tuple #[.int .u64 (out.getD x 0),.int .i64 0])∧w=w':=by
 have k:=f.blk.cell (i:=1) rfl
 have o:decide ((x:Int)<0)=false:=by simp
 have m:decide ((n:Int)≤(x:Int))=false:=by simp;omega
 obtain⟨b,a,rfl,_,j,_⟩:=f.ints x g
 dsimp only at j
 generalize out.getD x 0=y at*
 clear f
 go_enter Tryz.func92,Tryz.ntmps92
 go_wp2
 go_ret2
 exact⟨rfl,rfl⟩
end Jb
namespace Jc
open Bytes8 Blk8 Own8 OwnE Rows2 Ga Gb Ma Na Np Nr Ns Nt Rc Rn Rr Va Wa Pr8 Jb Ro
open Go1 (hcode)
open Nh (intE)
open Dc (aAe)
open Yg (NewIn)
open Yg (aAr)
def TellRN (B:Nat)(p:RecP)(cd:Int)(w:World)(e:Ending)(w':World):Prop:= ∃F c,e= .returned (.tuple #[p.v F c,.int .i64 cd])∧Prs w' F p.pl∧NewIn B F∧Below w.heap.size w w'
theorem aND {f:Nat}{h:HD}{A:Option Addr}{n c:Nat}{l:List Int}(a:Nat)(w:World)(v:ViewAt w f h A n c l)(d:c≤maxLen)(k:n≤800000):
 Calls Tryz.prog 118 #[.pointer (some ⟨f,0,none⟩),.int .u64 (a:Int)] w (TellRN w.heap.size (recP h l n a) (rcode h l n a) w):=by
 refine(aP4 a w v d k).mono ?_
 rintro e w' ⟨g,⟨b,rfl⟩|⟨b,F,i,rfl,j,m⟩⟩
 ·unfold TellRN recP
  rw[if_neg b]
  exact⟨none,0,rfl,Prs.nil _ _,aCO _,g⟩
 ·unfold TellRN recP
  rw[if_pos b,b]
  exact⟨F,i,rfl,j,m,g⟩
attribute [local irreducible] HD.cells wpList Code.wp
theorem aOl {w:World}{gf z:Nat}{h:HD}{A:Option Addr}{E c:Nat}{l:List Int}{P:Option Addr}{n cp:Nat}{out:List Int}{cd:Int}(f:FileAt w gf z h A E c l P n cp out cd)(x:Nat)(H:x<n):Calls Tryz.prog 73 #[.pointer (some ⟨gf,0,none⟩),.int .i64 (x:Int)] w (TellRN w.heap.size (recP h l E (out.getD x 0).toNat) (rcode h l E (out.getD x 0).toNat) w):=by
 have k0:=f.blk.cell (i:=0) rfl
 have B:=yH fun(W:World) (hW:Below w.heap.size w W)=>at_in (f.below hW) x H
 have g:=yH ((yB w.heap.size w).alloc (yR _) (.cells zR 64))
 obtain⟨a,N⟩: ∃a:Nat,out.getD x 0=(a:Int):=by
  have j:x<out.length:=by rw[f.len];exact H
  have e:out.getD x 0=out[x]:=by simp[yG j]
  have:=f.nn _ (List.getElem_mem j)
  exact⟨out[x].toNat,by rw[e];omega⟩
 rw[N]at B⊢
 rw[Int.toNat_natCast]
 have C:=yH fun(W:World) (hW:Below w.heap.size w W)=>aND a W (f.view.below hW) f.cm f.e8
 have M:(w.alloc (.cells zR 64)).cell? ⟨gf,0,none⟩=some (.pointer (some ⟨z,0,none⟩)):=(g.out.cell (p:=⟨gf,0,none⟩) f.blk.lt).trans k0
 have J:=yH (heap_alloc_new w (.cells zR 64))
 have s:(w.alloc (.cells zR 64)).heap.size=w.heap.size+1:=by simp
 unfold TellRN at C⊢
 clear f k0
 generalize recP h l E a=R at*
 generalize rcode h l E a=r at*
 obtain⟨rs,q,t,u,o,I⟩:=R
 dsimp only at*
 go_enter Tryz.func73,Tryz.ntmps73
 go_wp2_with(first
  |(go_at_call 92;(refine(B.out _ g.out).mono ?_);rintro e w1 ⟨rfl,rfl⟩)
  |(go_at_call 118;(refine(C.out _ g.out).mono ?_);rintro e w2 ⟨F,m,rfl,D,k,d⟩;have X:=yH D;have G:=yH k;have V:=yH (g.out.trans (d.mono g.out.size));have y:=yH ((d.block w.heap.size (by rw[s];exact Nat.lt_succ_self _)).trans J.out);clear D k d)
  |((with_reducible apply aAa (.tmp 4) (.tmp 24));refine wpList_store_row rfl 64 (.tmp 4) (.tmp 24) rfl w.heap.size (recL rs q t u (.slice F o m)).toArray rfl rfl 64 zR y.out (aAm _ _ _ _ _) rfl (by simp[Value.oneCell']) ?_)
  |fail)
 refine bodyPost_ret (v:= .tuple #[.agg (recL rs q t u (.slice F o m)).toArray,.int .i64 r]) (by exact aAr Tryz.results73 _ _ w.heap.size 64 _ (0,0) _ _ rfl rfl (setRow_heap _ _ _ _ _ (0,0) y.out) Tryz.underlying64 rfl (aAm _ _ _ _ _)) rfl ?_
 have L:=below_setRow V.out (yR w.heap.size) (recL rs q t u (.slice F o m)).toArray
 refine⟨F,m,rfl,X.out.keptB (by rw[setRow_size];exact yR _) fun b off e hb=>?_,fun b off e=>by have:=G.out b off e;omega,L⟩
 have Y:=G.out b off e
 exact setRow_other _ _ _ _ (by omega)
end Jc
namespace Jd
open Bytes8 Blk8 Own8 OwnE Rows2 Ga Gb Ma Na Np Nr Ns Nt Rc Rn Rr Va Wa Pr8 Ja Jb Jc
open Go1 (hcode)
open Nh (intE)
open Dc (aAe)
open Yg (NewIn)
abbrev jC (h:HD)(l:List Int)(E:Nat)(out:List Int)(x:Nat):Int:=rcode h l E (out.getD x 0).toNat
abbrev jR (h:HD)(l:List Int)(E:Nat)(out:List Int)(x:Nat):RecP:=recP h l E (out.getD x 0).toNat
def goodL (h:HD)(l:List Int)(E:Nat)(out:List Int)(n:Nat):List Nat:=(goodR (jC h l E out) (fun x=>(jR h l E out x).s) n).1
abbrev ints (l:List Nat):List Value:=l.map fun(x:Nat)=>Value.int .i64 (x:Int)
theorem aGM (l:List Nat)(k:Nat):ints (l++ [k])=ints l++ [.int .i64 (k:Int)]:=List.map_append
attribute [local irreducible] HD.cells wpList Code.wp
theorem aNE {w:World}{gf gv:Nat}{h:HD}{A:Option Addr}{E c:Nat}{l:List Int}{P:Option Addr}{n cp:Nat}{out:List Int}{cd:Int}(f:FileAt w gf gv h A E c l P n cp out cd):
 Calls Tryz.prog 29 #[.pointer (some ⟨gf,0,none⟩)] w fun e w'=> ∃p m t,e= .returned (.slice p m t)∧OwnE 3 1 w' w.heap.size p m t (ints (goodL h l E out n))∧(goodL h l E out n).length=m∧Below w.heap.size w w':=by
 have k1:=f.blk.cell (i:=1) rfl
 have af:=f.nb
 have HR:=yH fun(x:Nat) (hx:x<n) (W:World) (hW:Below w.heap.size w W)=>aOl (f.below hW) x hx
 have N:=fun k=>aAR (jC h l E out) (fun x=>(jR h l E out x).s) k
 unfold goodL
 have hC: ∀x,jC h l E out x=rcode h l E (out.getD x 0).toNat:=fun _=>rfl
 have hR: ∀x,jR h l E out x=recP h l E (out.getD x 0).toNat:=fun _=>rfl
 simp only[←hC,←hR]at HR
 clear f hC hR
 generalize hS:(fun x=>(jR h l E out x).s)=S at*
 generalize jR h l E out=R at*
 generalize jC h l E out=C at*
 unfold TellRN at HR
 have aa:=yH N
 clear N
 go_enter Tryz.func29,Tryz.ntmps29
 go_upto_region 3 with fail
 go_wp2_with fail
 go_loopw [3,4,13] (fun s g i wr=> ∃(k m:Nat) (p:Option Addr) (t:Nat),k≤n∧s= .slice p m t∧g= .int .u64 (goodR C S k).2∧i= .int .i64 (k:Int)∧Hid (OwnE 3 1 wr w.heap.size p m t (ints (goodR C S k).1))∧Hid ((goodR C S k).1.length=m)∧Hid (Below w.heap.size w wr)) (fun _ _ i _=>n-Rn.natOf i)
 case atStart=>exact⟨0,0,none,0,Nat.zero_le _,rfl,rfl,rfl,yH (OwnE.nil w w.heap.size (yR _)),yH rfl,yH (yB _ _)⟩
 case round=>
  obtain⟨k,m,p,t,hk,rfl,rfl,rfl,hO,hL,hB⟩:=hrel
  by_cases v:k<n
  ·have ad:decide ((k:Int)<(n:Int))=true:=by simp;omega
   have ah:IntKind.i64.wrap ((k:Int)+1)=((k+1:Nat):Int):=by rw[IntKind.wrap_i64];omega
   have B:=yH (HR.out k v wr hB.out)
   have hm:=(aa.out k).2.1
   have y:=hL.out
   have d:=yH (aCo (C:=C) (S:=S) (k:=k))
   have b:=yH (aDA (C:=C) (S:=S) (k:=k))
   have ab:S k=(R k).s:=by rw[←hS]
   rw[ab]at d b
   clear HR aa ab
   generalize goodR C S k=q at*
   obtain⟨L,gr⟩:=q
   dsimp only at hO hL hm y d b
   generalize C k=ck at*
   generalize R k=r at*
   obtain⟨rs,rr,rm,X,Y,ai⟩:=r
   dsimp only at B d b
   clear hS
   go_upto_region 7 with(first
    |(go_at_call 73;(refine B.out.mono ?_);rintro e w2 ⟨F,I,rfl,_,_,D⟩;have B2:=yH (hB.out.trans (D.mono hB.out.size));have O2:=yH (hO.out.kept D (yR _));clear D)
    |((with_reducible apply aAa (.tmp 6) (.tmp 20));refine wpList_store_row rfl 64 (.tmp 6) (.tmp 20) rfl w2.heap.size (recL rs rr rm X (.slice F Y I)).toArray rfl rfl 64 zR (heap_alloc_new w2 _) (aAm _ _ _ _ _) rfl (by simp[Value.oneCell']) ?_)
    |fail)
   have R3:=yH (show Blk ((w2.alloc (.cells zR 64)).setRow w2.heap.size (recL rs rr rm X (.slice F Y I)).toArray) w2.heap.size (recL rs rr rm X (.slice F Y I)) 64 from setRow_heap _ _ _ _ _ (0,0) (heap_alloc_new w2 _))
   have b3:=yH (show Below w2.heap.size w2 ((w2.alloc (.cells zR 64)).setRow w2.heap.size (recL rs rr rm X (.slice F Y I)).toArray)from below_setRow ((yB _ _).alloc (yR _) _) (yR _) _)
   have O3:=yH (O2.out.kept b3.out (yR _))
   have ae:=yH (fun k hk=>(show k<w2.heap.size from(Dc.OwnE.ltB O2.out k hk).2))
   have M:=yH (B2.out.trans (b3.out.mono B2.out.size))
   clear b3 B hO
   generalize (w2.alloc (.cells zR 64)).setRow w2.heap.size (recL rs rr rm X (.slice F Y I)).toArray=w3 at*
   have ag:=B2.out.size
   clear O2 B2
   generalize w2.heap.size=Z at*
   have k0:w3.cell? ⟨Z,0,none⟩=some (.int .u64 rs):=R3.out.cell (i:=0) rfl
   by_cases o:ck=0
   ·subst o
    by_cases hg:gr<rs
    ·have z:=d.out ⟨rfl,hg⟩
     have j:=yH z
     have d1:decide (rs≤gr)=false:=by simp;omega
     have V:=yH (R3.out.alloc (.cells #[.int .i64 (k:Int)] 3))
     clear d b hg z
     go_upto_region 9 with(first
      |(at_builtin;refine aAe intE rfl (.tmp 30) (.tmp 32) rfl w.heap.size p m t (ints L) rfl (OwnE.alloc O3.out _) ⟨w3.heap.size,0,none⟩ 1 1 [.int .i64 (k:Int)] rfl rfl (Blk.news (Blk.new w3 [.int .i64 (k:Int)] 3)) (by intro u hu;simp at hu;subst hu;rfl) (by omega) (by omega) (by unfold maxLen;omega) ?_;intro A6 c6 w6 G J H;have O6:=yH G;have G6:=yH J;clear G J H)
      |fail)
     have B6:=yH ((M.out.alloc M.out.size (.cells #[.int .i64 (k:Int)] 3)).trans (Own8.below_grown G6.out (by have:=M.out.size;simp;omega) (fun k hk=>(Dc.OwnE.ltB O3.out k hk).1)))
     have k6:w6.cell? ⟨Z,0,none⟩=some (.int .u64 rs):=(World.cell?_of_block (a:=⟨Z,0,none⟩) (G6.out.block Z V.out.lt (fun e=>by have h2:=ae.out Z e.symm;omega))).trans (V.out.cell (i:=0) rfl)
     go_wp2_with fail
     go_roundw
     case rel=>exact⟨k+1,m+1,A6,c6,v,rfl,by rw[j.out],rfl,yH (by rw[j.out,aGM];exact O6.out),yH (by rw[j.out,yA,List.length_singleton,y]),B6⟩
     case measure=>simp[Rn.natOf];omega
    ·have z:=b.out (fun h=>hg h.2)
     have j:=yH z
     have d1:decide (rs≤gr)=true:=by simp;omega
     clear d b hg z
     go_wp2_with fail
     go_roundw
     case rel=>exact⟨k+1,m,p,t,v,rfl,by rw[j.out],rfl,yH (by rw[j.out];exact O3.out),yH (by rw[j.out];exact y),M⟩
     case measure=>simp[Rn.natOf];omega
   ·have z:=b.out (fun h=>o h.1)
    have j:=yH z
    have d0:decide (ck=0)=false:=by simpa using o
    have d1:(ck !=0)=true:=by simpa using o
    clear d b o z
    go_wp2_with fail
    go_roundw
    case rel=>exact⟨k+1,m,p,t,v,rfl,by rw[j.out],rfl,yH (by rw[j.out];exact O3.out),yH (by rw[j.out];exact y),M⟩
    case measure=>simp[Rn.natOf];omega
  ·have ad:decide ((k:Int)<(n:Int))=false:=by simp;omega
   have ac:k=n:=by omega
   subst ac
   go_wp2_with fail
   go_ret
   exact⟨p,m,t,rfl,hO.out,hL.out,hB.out⟩
end Jd
namespace Je
open Bytes8 Blk8 OwnE Ga Gb Ma Kf Np Rn Rr Dc Jb Jd
open Go1 (hcode)
open Yg (NewIn)
def goodRecs (h:HD)(l:List Int)(E:Nat)(out:List Int)(n:Nat):List RecP:=(goodL h l E out n).map fun x=>jR h l E out x
theorem aPf {w:World}{b m c:Nat}{A:Option Addr}{L:List Nat}(h:OwnE 3 1 w b A m c (ints L))(d:L.length=m)(f: ∀x∈L,x<9223372036854775808)(i:Nat)(j:i<m): ∃g,A=some ⟨g,0,none⟩∧w.cell? ⟨g,i,none⟩=some (.int .i64 ((L.getD i 0:Nat):Int)):=by
 obtain⟨g,e,_,_,a⟩:=OwnE.cell h (i:=i) (by rw[List.length_map];omega)
 refine⟨g,e,a.trans ?_⟩
 rw[List.getElem?_map,yG (by omega),yD,yG (by omega)]
 rfl
attribute [local irreducible] HD.cells wpList Code.wp
end Je
namespace Zh
open Bytes8 Ob Ga Ma Na Nc Za Zb Zc Zd Yp Yh Va Wa
open Rg (arcode)
theorem aHQ {o:O}(b:o.Ok)(i a:Nat)(d:i<o.ws.length)(c:a=8*i):u8 o.body a=o.ws.getD i 0:=by rw[c];exact aQf b i d
theorem aNF {l n:List Int}{b:List O}(s:l=n++enc b)(t:n.length=272)(i: ∀o∈b,o.Ok){a r:Nat}{g:Nat×Nat}(hs:shp b a=some ⟨6,1+r,[],g⟩)(v:1≤r):
 ecode l a 6 8 8=0∧arX l a=wd b a 0∧arM l a=r∧ ∀j,j<r→arF (bodyL l a) j=wd b a (1+j):=by
 obtain⟨o,e,k⟩:=aBm hs
 have f:=i o (aCn _ _ _ _ e)
 injection k with h1 h2 h3 h4
 obtain⟨w,q,u,d⟩:=aHZ s t e f
 have p: ∀j,wd b a j=o.ws.getD j 0:=fun j=>by unfold wd;rw[e]
 have c:o.body.length=8*(1+r):=by rw[O.body_len,h2,h3];simp
 have m:ecode l a 6 8 8=0:=by
  unfold ecode
  rw[if_neg (by omega),q,h1,if_neg (by decide),d,c,if_neg (by omega)]
 refine⟨m,?_,?_,fun j hj=>?_⟩
 ·unfold arX
  rw[if_pos m,d,p]
  exact aHQ f 0 0 (by omega) rfl
 ·unfold arM arN
  rw[if_pos m,d,c]
  omega
 ·unfold arF
  rw[d,p]
  exact aHQ f (1+j) _ (by omega) (by omega)
abbrev toI (l:List Nat):List Int:=l.map fun(x:Nat)=>(x:Int)
theorem aJP {its:List Nat}(a:its.Pairwise (· < ·))(b: ∀x∈its,0<x)(j:Nat)(d:j<its.length):lastI (toI (its.take j))<(its[j]:Int):=by
 rcases Nat.eq_zero_or_pos j with c|c
 ·subst c
  have:=b its[0] (List.getElem_mem _)
  simp[lastI]
  omega
 ·obtain⟨q,rfl⟩: ∃q,j=q+1:=⟨j-1,by omega⟩
  have e:toI (its.take (q+1))=toI (its.take q)++ [(its[q]:Int)]:=by
   show(its.take (q+1)).map (fun(x:Nat)=>(x:Int))=(its.take q).map (fun(x:Nat)=>(x:Int))++ [(its[q]:Int)]
   rw[List.take_succ_eq_append_getElem (by omega),List.map_append]
   rfl
  rw[e,aDf]
  have:=List.pairwise_iff_getElem.1 a q (q+1) (by omega) d (by omega)
  omega
theorem aNG (its:List Nat)(j:Nat)(a:j<its.length):toI (its.take j)++ [(its[j]:Int)]=toI (its.take (j+1)):=by
 show(its.take j).map (fun(x:Nat)=>(x:Int))++ [(its[j]:Int)]=(its.take (j+1)).map (fun(x:Nat)=>(x:Int))
 rw[List.take_succ_eq_append_getElem a,List.map_append]
 rfl
theorem aEt (its:List Nat)(j:Nat)(a:j≤its.length):((toI (its.take j)).length:Int)=(j:Int):=by
 rw[List.length_map,List.length_take];omega
def told (arr its:List Nat)(n na ni:Int):List Int×Int:=if n≤its.length then(toI (its.take n.toNat),0)else(toI its,if its.length=rooms arr.length then na else ni)
theorem aLG {arr its:List Nat}{n na ni:Int}{j:Nat}(a:j≤its.length)(h:(j:Int)=n):told arr its n na ni=(toI (its.take j),0):=by
 unfold told
 rw[if_pos (by omega),show n.toNat=j by omega]
variable {h : HD} {l hd : List Int} {os : List O} {t : Nat} {arr its : List Nat}
theorem aPg (w:ArrW os t arr its)(d:its.Pairwise (· < ·)){E:Nat}(a: ∀x∈its,0<x∧x<E)(n na ni:Int)(K:List Int→List Int×Int)(g:Nat→Int)(k:Nat)(u:k<arr.length)
 (s: ∀j,j<roomN k→g j=wd os arr[k] (1+j))(z:rooms (k+1)≤its.length→((rooms (k+1):Nat):Int)≤n→K (toI (its.take (rooms (k+1))))=told arr its n na ni)(m: ∀o:List Int,(o.length:Int)=n→K o=(o,0)):
 ∀(q j:Nat),q+j=roomN k→rooms k+j≤its.length→((rooms k+j:Nat):Int)≤n→inA K E n ni g q j (toI (its.take (rooms k+j)))=told arr its n na ni:=by
 have v:=aAv k
 intro q
 induction q with
 |zero=>
  intro j y c i
  have e:rooms k+j=rooms (k+1):=by omega
  show K _=_
  rw[e]at c i⊢
  exact z c i
 |succ q ih=>
  intro j y c i
  by_cases f:((rooms k+j:Nat):Int)=n
  ·rw[aFL _ _ _ _ _ _ _ _ (by rw[aEt _ _ c];exact f) (m _ (by rw[aEt _ _ c];exact f))]
   exact(aLG c f).symm
  ·unfold inA
   rw[if_neg (by rw[aEt _ _ c];exact f),s j (by omega),w.it k u j (by omega)]
   by_cases b:rooms k+j<its.length
   ·have l:its.getD (rooms k+j) 0=its[rooms k+j]:=by simp[yG b]
    obtain⟨A,B⟩:=a its[rooms k+j] (List.getElem_mem _)
    have r:=aJP d (fun x hx=>(a x hx).1) (rooms k+j) b
    rw[l,if_neg (by simp[nothB];omega),if_neg (by omega),aNG its _ b]
    exact ih (j+1) (by omega) (by omega) (by omega)
   ·have p:rooms k+j=its.length:=by omega
    have l:its.getD (rooms k+j) 0=0:=by simp[List.getElem?_eq_none (Nat.le_of_eq p.symm)]
    rw[l,if_pos (by simp[nothB])]
    have C:=rooms_mono (show k+1≤arr.length by omega)
    unfold told
    rw[if_neg (by omega),if_neg (by omega),p,List.take_length]
theorem aLH (v:l=hd++enc os)(y:hd.length=272)(u: ∀o∈os,o.Ok)(B:h.N 0=272)(w:ArrW os t arr its)(e:its.Pairwise (· < ·))(g: ∀x∈its,0<x∧x<l.length)(n na ni:Int):
 ∀(f k a:Nat),k≤arr.length→rooms k≤its.length→((rooms k:Nat):Int)≤n→(k=0→a=0)→(∀E:0<k,a=arr.getD (k-1) 0)→a≤l.length→l.length+1≤f+a→
  chase h l l.length n na ni f (toI (its.take (rooms k))) (arr.getD k 0) a=told arr its n na ni:=by
 intro f
 induction f with
 |zero=>intro k a _ _ _ _ _ i A;omega
 |succ f ih=>
  intro k a E r Y m s L V
  by_cases c:((rooms k:Nat):Int)=n
  ·rw[aAN _ _ _ _ _ _ _ _ _ _ (by rw[aEt _ _ r];exact c)]
   exact(aLG r c).symm
  ·unfold chase
   rw[if_neg (by rw[aEt _ _ r];exact c)]
   by_cases q:k=arr.length
   ·subst q
    have j:arr.getD arr.length 0=0:=by simp
    rw[j,if_pos (by simp[nothB])]
    have:=w.le
    unfold told
    rw[if_neg (by omega),if_pos (by omega),show rooms arr.length=its.length by omega,List.take_length]
   ·have b:k<arr.length:=by omega
    have j:arr.getD k 0=arr[k]:=by simp[yG b]
    have G:l.length=endO os:=by rw[v,yA,y];rfl
    have C:=aBn (w.sh k b)
    dsimp only at C
    have F:=aAE k
    have p:a<arr[k]:=by
     rcases Nat.eq_zero_or_pos k with i|i
     ·rw[m i];omega
     ·have A:=List.pairwise_iff_getElem.1 w.asc (k-1) k (by omega) b (by omega)
      have X:=s i
      have R:arr.getD (k-1) 0=arr[k-1]:=by simp[yG (show k-1<arr.length by omega)]
      omega
    obtain⟨r1,I,z,D⟩:=aNF v y u (w.sh k b) (by omega)
    have d:h.N 0≤(arr[k]:Int)∧arr[k]<l.length:=by rw[B];omega
    have J:arcode h l l.length arr[k]=0:=by unfold arcode;rw[if_pos d];exact r1
    have H:(aX9 h l l.length arr[k]).toNat=arr.getD (k+1) 0:=by
     unfold aX9
     rw[if_pos d,I,w.nx k b,Int.toNat_natCast]
    have M:aC9 h l l.length arr[k]=roomN k:=by unfold aC9;rw[if_pos d];exact z
    rw[j,if_neg (by simp[nothB];omega),if_neg (by omega),if_neg (by rw[J];decide),H,M]
    refine aPg w e g n na ni _ _ k b D (fun q1 q2=>?_) (fun o ho=>aAN _ _ _ _ _ _ _ _ _ _ ho) (roomN k) 0 (by omega) (by omega) (by omega)
    exact ih (k+1) arr[k] (by omega) q1 q2 (fun h=>absurd h (by omega)) (fun _=>by rw[Nat.add_sub_cancel];exact j.symm) (by omega) (by omega)
end Zh
end Go.Proofs.YteaikbodkgjkdaaGreat
