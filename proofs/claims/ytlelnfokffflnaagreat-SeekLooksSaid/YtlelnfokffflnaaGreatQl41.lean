/-
  Texts beneath the proof.
-/
import Derived.Test.YtlelnfokffflnaaGreatQl40
set_option linter.unusedVariables false
set_option linter.unusedSimpArgs false
set_option maxRecDepth 100000
set_option maxHeartbeats 8000000
open Go.ChangeShapes Go.WideShapes Go.ChangeAt Go.RowKit
namespace Go.Proofs.YtlelnfokffflnaaGreat
namespace Jb
open Bytes8 Blk8 Own8 OwnE Rows2 Ga Gb Gf Gj Ma Na Np Ns Nt Nu Rc Rn Rp Rr Va Wa Ls Pr8
open Go1 (hcode)
open Yz (OwnE.farE)
structure FileAt (w:World)(gf gv:Nat)(h:HD)(A:Option Addr)(E c:Nat)(l:List Int)(P:Option Addr)(n cp:Nat)(out:List Int)(cd:Int):Prop where
 blk:Blk w gf [.pointer (some ⟨gv,0,none⟩),.slice P n cp,.int .i64 cd] 219
 view:ViewAt w gv h A E c l
 cm:c≤maxLen
 e8:E≤800000
 ints:InInts .u64 w P n (fun i=>out.getD i 0)
 len:out.length=n
 nn: ∀y∈out,0≤y∧y≤18446744073709551615
 nb:n≤800000
theorem FileAt.below {w w':World}{gf d:Nat}{h:HD}{A:Option Addr}{E c:Nat}{l:List Int}{P:Option Addr}{n cp:Nat}{out:List Int}{cd:Int}(f:FileAt w gf d h A E c l P n cp out cd)(b:Below w.heap.size w w'):FileAt w' gf d h A E c l P n cp out cd:=
 ⟨f.blk.below b f.blk.lt,f.view.below b,f.cm,f.e8,f.ints.below b,f.len,f.nn,f.nb⟩
def JOpened (l:List Int)(E:Nat)(w:World)(e:Ending)(w':World):Prop:= ∃(gf gv:Nat) (A2:Option Addr) (c2:Nat) (P:Option Addr) (k cp:Nat),e= .returned (.tuple #[.pointer (some ⟨gf,0,none⟩),.int .i64 0])∧FileAt w' gf gv (hdOf l) A2 E c2 (l.take E) P k cp (chase (hdOf l) (l.take E) E ((hdOf l).N 8) 14 2 (E+1) [] ((hdOf l).N 11).toNat 0).1 (chase (hdOf l) (l.take E) E ((hdOf l).N 8) 14 2 (E+1) [] ((hdOf l).N 11).toNat 0).2∧Below w.heap.size w w'
attribute [local irreducible] HD.cells wpList Code.wp
theorem aE6 (l:List Int)(A:Option Addr)(n c:Nat)(w:World)(hb:Bytes w A l)(hL:l.length=n)(hn:n≤800000)(hc:n≤c)(hz:hcode l n=0)(E:Nat)(hE:endV (hdOf l)=(E:Int))(x:endB (hdOf l)=true)(V:E≤n)(y:(hdOf l).Ok 21):
 Calls Tryz.prog 60 #[.slice A n c] w (JOpened l E w):=by
 have j:=yH (open_fine l A n c w hb hL hn hc hz E hE x V y)
 unfold Opened at j
 have f:=hb.1
 have aa:(l.take E).length≤800000:=by rw[List.length_take];omega
 have ab:=yH (f.take E)
 have HF:=yH (aEs (h:=hdOf l) (f.take E) (E:=E) (n:=(hdOf l).N 8) (na:=14) (ni:=2) (E+1) [] ((hdOf l).N 11).toNat 0 (aLG E))
 have s:E≤800000:=by omega
 have L:=yH y
 unfold JOpened
 clear hb hz hE x
 generalize hdOf l=H at*
 generalize l.take E=lE at*
 have m:=yH fun(W:World) (d:Nat) (G:Option Addr) (C:Nat) (v:ViewAt W d H G E C lE) (hcm:C≤maxLen)=>Wl.aHS W v hcm s aa ab.out L.out
 unfold TellL at m
 generalize chase H lE E (H.N 8) 14 2 (E+1) [] (H.N 11).toNat 0=R at*
 obtain⟨out,cd⟩:=R
 dsimp only at*
 go_enter Tryz.func60,Tryz.ntmps60
 go_upto_region 5 with(first
  |(go_at_call 22;((refine j.out.mono ?_);rintro e w1 ⟨d,G,C,rfl,_,hv,B,z⟩;have HV:=yH hv;have I:=yH z;have t:=yH B;clear hv z B))
  |fail)
 have J:=yH (Blk.new w1 [.pointer (some ⟨d,0,none⟩),.slice none 0 0,.int .i64 0] 219)
 have b2:=yH ((Below.refl w1.heap.size w1).alloc (yR _) (.cells #[.pointer (some ⟨d,0,none⟩),.slice none 0 0,.int .i64 0] 219))
 have M:(w1.alloc (.cells #[.pointer (some ⟨d,0,none⟩),.slice none 0 0,.int .i64 0] 219)).heap.size=w1.heap.size+1:=by simp
 have Y:=yH (HV.out.below b2.out)
 have X:=yH (m.out _ d G C Y.out t.out)
 have o:=I.out.size
 clear j m
 generalize (w1.alloc (.cells #[.pointer (some ⟨d,0,none⟩),.slice none 0 0,.int .i64 0] 219))=w2 at*
 have B2:=yH (I.out.trans (b2.out.mono I.out.size))
 obtain⟨b,D⟩: ∃g,w1.heap.size=g:=⟨_,rfl⟩
 rw[D]at J M b2 o
 clear I
 go_upto_region 6 with(first
  |(go_at_call 88;((refine X.out.mono ?_);rintro e w3 ⟨q,P,k,cp,rfl,u,F⟩;have B3:=yH q;have O3:=yH u;have L3:=yH F;have r:=J.out.below q J.out.lt;have k1:=r.cell (i:=1) rfl;have k2:=r.cell (i:=2) rfl;have z1:=r.frozen 1;have z2:=r.frozen 2;clear q u F))
  |fail)
 have BF:=yH (((b2.out.trans (B3.out.mono (by omega))).setCell (p:=⟨b,1,none⟩) (yR _) (.slice P k cp)).setCell (p:=⟨b,2,none⟩) (yR _) (.int .i64 cd))
 have BB:=yH (((B2.out.trans (B3.out.mono B2.out.size)).setCell (p:=⟨b,1,none⟩) o (.slice P k cp)).setCell (p:=⟨b,2,none⟩) o (.int .i64 cd))
 have RF:=yH ((r.set_ 1 (.slice P k cp)).set_ 2 (.int .i64 cd))
 have OF:=yH (OwnE.farE (OwnE.farE O3.out (a:=⟨b,1,none⟩) (by show b<_;omega) (.slice P k cp)) (a:=⟨b,2,none⟩) (by show b<_;omega) (.int .i64 cd))
 have L5:=L3.out
 have F5:=HF.out
 have Z:=yH (HV.out.below (by rw[D];exact BF.out))
 clear k1 k2 z1 z2 r
 go_wp2
 go_ret2
 refine⟨b,d,G,C,P,k,cp,rfl,⟨RF.out,Z.out,t.out,s,aGM OF.out L5 F5.2,L5,F5.2,?_⟩,BB.out⟩
 have h6:=F5.1
 unfold Up at h6
 omega
theorem at_in {w:World}{gf j:Nat}{h:HD}{A:Option Addr}{E c:Nat}{l:List Int}{P:Option Addr}{n cp:Nat}{out:List Int}{cd:Int}(f:FileAt w gf j h A E c l P n cp out cd)(x:Nat)(d:x<n):Calls Tryz.prog 125 #[.pointer (some ⟨gf,0,none⟩),.int .i64 (x:Int)] w fun e w'=>e= .returned (.tuple #[.int .u64 (out.getD x 0),.int .i64 0])∧w=w':=by
 have m:=f.blk.cell (i:=1) rfl
 have p:decide ((x:Int)<0)=false:=by simp
 have o:decide ((n:Int)≤(x:Int))=false:=by simp;omega
 obtain⟨b,k,rfl,_,g,_⟩:=f.ints x d
 dsimp only at g
 generalize out.getD x 0=y at*
 clear f
 go_enter Tryz.func125,Tryz.ntmps125
 go_wp2
 go_ret2
 exact⟨rfl,rfl⟩
end Jb
namespace Jc
open Bytes8 Blk8 Own8 OwnE Rows2 Ga Gb Ma Na Np Nr Ns Nt Rc Rn Rr Va Wa Pr8 Jb Ro
open Go1 (hcode)
open Nh (intE)
open Dc (aAe)
open Yg (NewIn)
open Yg (aAr)
def TellRN (B:Nat)(p:RecP)(cd:Int)(w:World)(e:Ending)(w':World):Prop:= ∃F c,e= .returned (.tuple #[p.v F c,.int .i64 cd])∧Prs w' F p.pl∧NewIn B F∧Below w.heap.size w w'
theorem aND {f:Nat}{h:HD}{A:Option Addr}{n c:Nat}{l:List Int}(a:Nat)(w:World)(v:ViewAt w f h A n c l)(d:c≤maxLen)(i:n≤800000):
 Calls Tryz.prog 126 #[.pointer (some ⟨f,0,none⟩),.int .u64 (a:Int)] w (TellRN w.heap.size (recP h l n a) (rcode h l n a) w):=by
 refine(aP4 a w v d i).mono ?_
 rintro e w' ⟨g,⟨b,rfl⟩|⟨b,F,m,rfl,k,j⟩⟩
 ·unfold TellRN recP
  rw[if_neg b]
  exact⟨none,0,rfl,Prs.nil _ _,aCO _,g⟩
 ·unfold TellRN recP
  rw[if_pos b,b]
  exact⟨F,m,rfl,k,j,g⟩
attribute [local irreducible] HD.cells wpList Code.wp
theorem aOl {w:World}{gf y:Nat}{h:HD}{A:Option Addr}{E c:Nat}{l:List Int}{P:Option Addr}{n cp:Nat}{out:List Int}{cd:Int}(f:FileAt w gf y h A E c l P n cp out cd)(x:Nat)(C:x<n):Calls Tryz.prog 70 #[.pointer (some ⟨gf,0,none⟩),.int .i64 (x:Int)] w (TellRN w.heap.size (recP h l E (out.getD x 0).toNat) (rcode h l E (out.getD x 0).toNat) w):=by
 have k0:=f.blk.cell (i:=0) rfl
 have z:=yH fun(W:World) (hW:Below w.heap.size w W)=>at_in (f.below hW) x C
 have j:=yH ((Below.refl w.heap.size w).alloc (yR _) (.cells zR 70))
 obtain⟨a,X⟩: ∃a:Nat,out.getD x 0=(a:Int):=by
  have g:x<out.length:=by rw[f.len];exact C
  have e:out.getD x 0=out[x]:=by simp[List.getElem?_eq_getElem g]
  have:=f.nn _ (List.getElem_mem g)
  exact⟨out[x].toNat,by rw[e];omega⟩
 rw[X]at z⊢
 rw[Int.toNat_natCast]
 have G:=yH fun(W:World) (hW:Below w.heap.size w W)=>aND a W (f.view.below hW) f.cm f.e8
 have I:(w.alloc (.cells zR 70)).cell? ⟨gf,0,none⟩=some (.pointer (some ⟨y,0,none⟩)):=(j.out.cell (p:=⟨gf,0,none⟩) f.blk.lt).trans k0
 have J:=yH (heap_alloc_new w (.cells zR 70))
 have u:(w.alloc (.cells zR 70)).heap.size=w.heap.size+1:=by simp
 unfold TellRN at G⊢
 clear f k0
 generalize recP h l E a=R at*
 generalize rcode h l E a=o at*
 obtain⟨rs,s,t,q,r,N⟩:=R
 dsimp only at*
 go_enter Tryz.func70,Tryz.ntmps70
 go_wp2_with(first
  |(go_at_call 125;(refine(z.out _ j.out).mono ?_);rintro e w1 ⟨rfl,rfl⟩)
  |(go_at_call 126;(refine(G.out _ j.out).mono ?_);rintro e w2 ⟨F,m,rfl,D,k,d⟩;have M:=yH D;have H:=yH k;have L:=yH (j.out.trans (d.mono j.out.size));have B:=yH ((d.block w.heap.size (by rw[u];exact Nat.lt_succ_self _)).trans J.out);clear D k d)
  |((with_reducible apply aAa (.tmp 4) (.tmp 24));refine wpList_store_row rfl 70 (.tmp 4) (.tmp 24) rfl w.heap.size (recL rs s t q (.slice F r m)).toArray rfl rfl 70 zR B.out (aAm _ _ _ _ _) rfl (by simp[Value.oneCell']) ?_)
  |fail)
 refine bodyPost_ret (v:= .tuple #[.agg (recL rs s t q (.slice F r m)).toArray,.int .i64 o]) (by exact aAr Tryz.results70 _ _ w.heap.size 70 _ (0,0) _ _ rfl rfl (setRow_heap _ _ _ _ _ (0,0) B.out) Tryz.underlying70 rfl (aAm _ _ _ _ _)) rfl ?_
 have V:=below_setRow L.out (yR w.heap.size) (recL rs s t q (.slice F r m)).toArray
 refine⟨F,m,rfl,M.out.keptB (by rw[setRow_size];exact yR _) fun b off e hb=>?_,fun b off e=>by have:=H.out b off e;omega,V⟩
 have Y:=H.out b off e
 exact setRow_other _ _ _ _ (by omega)
end Jc
namespace Jd
open Bytes8 Blk8 Own8 OwnE Rows2 Ga Gb Ma Na Np Nr Ns Nt Rc Rn Rr Va Wa Pr8 Ja Jb Jc
open Go1 (hcode)
open Nh (intE)
open Dc (aAe)
open Yg (NewIn)
abbrev jC (h:HD)(l:List Int)(E:Nat)(out:List Int)(x:Nat):Int:=rcode h l E (out.getD x 0).toNat
abbrev jR (h:HD)(l:List Int)(E:Nat)(out:List Int)(x:Nat):RecP:=recP h l E (out.getD x 0).toNat
def goodL (h:HD)(l:List Int)(E:Nat)(out:List Int)(n:Nat):List Nat:=(goodR (jC h l E out) (fun x=>(jR h l E out x).s) n).1
abbrev ints (l:List Nat):List Value:=l.map fun(x:Nat)=>Value.int .i64 (x:Int)
theorem aGN (l:List Nat)(k:Nat):ints (l++ [k])=ints l++ [.int .i64 (k:Int)]:=List.map_append
attribute [local irreducible] HD.cells wpList Code.wp
theorem aNE {w:World}{gf gv:Nat}{h:HD}{A:Option Addr}{E c:Nat}{l:List Int}{P:Option Addr}{n cp:Nat}{out:List Int}{cd:Int}(f:FileAt w gf gv h A E c l P n cp out cd):
 Calls Tryz.prog 118 #[.pointer (some ⟨gf,0,none⟩)] w fun e w'=> ∃t m p,e= .returned (.slice t m p)∧OwnE 3 1 w' w.heap.size t m p (ints (goodL h l E out n))∧(goodL h l E out n).length=m∧Below w.heap.size w w':=by
 have k1:=f.blk.cell (i:=1) rfl
 have ah:=f.nb
 have HR:=yH fun(x:Nat) (hx:x<n) (W:World) (hW:Below w.heap.size w W)=>aOl (f.below hW) x hx
 have H:=fun k=>aAR (jC h l E out) (fun x=>(jR h l E out x).s) k
 unfold goodL
 have hC: ∀x,jC h l E out x=rcode h l E (out.getD x 0).toNat:=fun _=>rfl
 have hR: ∀x,jR h l E out x=recP h l E (out.getD x 0).toNat:=fun _=>rfl
 simp only[←hC,←hR]at HR
 clear f hC hR
 generalize hS:(fun x=>(jR h l E out x).s)=S at*
 generalize jR h l E out=R at*
 generalize jC h l E out=C at*
 unfold TellRN at HR
 have Z:=yH H
 clear H
 go_enter Tryz.func118,Tryz.ntmps118
 go_upto_region 3 with fail
 go_wp2_with fail
 go_loopw [3,4,13] (fun s g i wr=> ∃(k m:Nat) (t:Option Addr) (p:Nat),k≤n∧s= .slice t m p∧g= .int .u64 (goodR C S k).2∧i= .int .i64 (k:Int)∧Hid (OwnE 3 1 wr w.heap.size t m p (ints (goodR C S k).1))∧Hid ((goodR C S k).1.length=m)∧Hid (Below w.heap.size w wr)) (fun _ _ i _=>n-Rn.natOf i)
 case atStart=>exact⟨0,0,none,0,Nat.zero_le _,rfl,rfl,rfl,yH (OwnE.nil w w.heap.size (yR _)),yH rfl,yH (Below.refl _ _)⟩
 case round=>
  obtain⟨k,m,t,p,hk,rfl,rfl,rfl,hO,hL,hB⟩:=hrel
  by_cases z:k<n
  ·have ac:decide ((k:Int)<(n:Int))=true:=by simp;omega
   have ai:IntKind.i64.wrap ((k:Int)+1)=((k+1:Nat):Int):=by rw[IntKind.wrap_i64];omega
   have D:=yH (HR.out k z wr hB.out)
   have hm:=(Z.out k).2.1
   have y:=hL.out
   have d:=yH (aCo (C:=C) (S:=S) (k:=k))
   have b:=yH (aDA (C:=C) (S:=S) (k:=k))
   have ab:S k=(R k).s:=by rw[←hS]
   rw[ab]at d b
   clear HR Z ab
   generalize goodR C S k=q at*
   obtain⟨L,gr⟩:=q
   dsimp only at hO hL hm y d b
   generalize C k=ck at*
   generalize R k=r at*
   obtain⟨rs,rr,rm,J,M,af⟩:=r
   dsimp only at D d b
   clear hS
   go_upto_region 7 with(first
    |(go_at_call 70;(refine D.out.mono ?_);rintro e w2 ⟨F,X,rfl,_,_,G⟩;have B2:=yH (hB.out.trans (G.mono hB.out.size));have O2:=yH (hO.out.kept G (yR _));clear G)
    |((with_reducible apply aAa (.tmp 6) (.tmp 20));refine wpList_store_row rfl 70 (.tmp 6) (.tmp 20) rfl w2.heap.size (recL rs rr rm J (.slice F M X)).toArray rfl rfl 70 zR (heap_alloc_new w2 _) (aAm _ _ _ _ _) rfl (by simp[Value.oneCell']) ?_)
    |fail)
   have R3:=yH (show Blk ((w2.alloc (.cells zR 70)).setRow w2.heap.size (recL rs rr rm J (.slice F M X)).toArray) w2.heap.size (recL rs rr rm J (.slice F M X)) 70 from setRow_heap _ _ _ _ _ (0,0) (heap_alloc_new w2 _))
   have b3:=yH (show Below w2.heap.size w2 ((w2.alloc (.cells zR 70)).setRow w2.heap.size (recL rs rr rm J (.slice F M X)).toArray)from below_setRow ((Below.refl _ _).alloc (yR _) _) (yR _) _)
   have O3:=yH (O2.out.kept b3.out (yR _))
   have ad:=yH (fun k hk=>(show k<w2.heap.size from(Dc.OwnE.ltB O2.out k hk).2))
   have B3:=yH (B2.out.trans (b3.out.mono B2.out.size))
   clear b3 D hO
   generalize (w2.alloc (.cells zR 70)).setRow w2.heap.size (recL rs rr rm J (.slice F M X)).toArray=w3 at*
   have ag:=B2.out.size
   clear O2 B2
   generalize w2.heap.size=Y at*
   have k0:w3.cell? ⟨Y,0,none⟩=some (.int .u64 rs):=R3.out.cell (i:=0) rfl
   by_cases o:ck=0
   ·subst o
    by_cases hg:gr<rs
    ·have B:=d.out ⟨rfl,hg⟩
     have j:=yH B
     have d1:decide (rs≤gr)=false:=by simp;omega
     have V:=yH (R3.out.alloc (.cells #[.int .i64 (k:Int)] 3))
     clear d b hg B
     go_upto_region 9 with(first
      |(at_builtin;refine aAe intE rfl (.tmp 30) (.tmp 32) rfl w.heap.size t m p (ints L) rfl (OwnE.alloc O3.out _) ⟨w3.heap.size,0,none⟩ 1 1 [.int .i64 (k:Int)] rfl rfl (Blk.news (Blk.new w3 [.int .i64 (k:Int)] 3)) (by intro u hu;simp at hu;subst hu;rfl) (by omega) (by omega) (by unfold maxLen;omega) ?_;intro A6 c6 w6 N I aa;have O6:=yH N;have G6:=yH I;clear N I aa)
      |fail)
     have B6:=yH ((B3.out.alloc B3.out.size (.cells #[.int .i64 (k:Int)] 3)).trans (Own8.below_grown G6.out (by have:=B3.out.size;simp;omega) (fun k hk=>(Dc.OwnE.ltB O3.out k hk).1)))
     have k6:w6.cell? ⟨Y,0,none⟩=some (.int .u64 rs):=(World.cell?_of_block (a:=⟨Y,0,none⟩) (G6.out.block Y V.out.lt (fun e=>by have h2:=ad.out Y e.symm;omega))).trans (V.out.cell (i:=0) rfl)
     go_wp2_with fail
     go_roundw
     case rel=>exact⟨k+1,m+1,A6,c6,z,rfl,by rw[j.out],rfl,yH (by rw[j.out,aGN];exact O6.out),yH (by rw[j.out,List.length_append,List.length_singleton,y]),B6⟩
     case measure=>simp[Rn.natOf];omega
    ·have B:=b.out (fun h=>hg h.2)
     have j:=yH B
     have d1:decide (rs≤gr)=true:=by simp;omega
     clear d b hg B
     go_wp2_with fail
     go_roundw
     case rel=>exact⟨k+1,m,t,p,z,rfl,by rw[j.out],rfl,yH (by rw[j.out];exact O3.out),yH (by rw[j.out];exact y),B3⟩
     case measure=>simp[Rn.natOf];omega
   ·have B:=b.out (fun h=>o h.1)
    have j:=yH B
    have d0:decide (ck=0)=false:=by simpa using o
    have d1:(ck !=0)=true:=by simpa using o
    clear d b o B
    go_wp2_with fail
    go_roundw
    case rel=>exact⟨k+1,m,t,p,z,rfl,by rw[j.out],rfl,yH (by rw[j.out];exact O3.out),yH (by rw[j.out];exact y),B3⟩
    case measure=>simp[Rn.natOf];omega
  ·have ac:decide ((k:Int)<(n:Int))=false:=by simp;omega
   have ae:k=n:=by omega
   subst ae
   go_wp2_with fail
   go_ret
   exact⟨t,m,p,rfl,hO.out,hL.out,hB.out⟩
end Jd
namespace Je
open Bytes8 Blk8 OwnE Ga Gb Ma Kf Np Rn Rr Dc Jb Jd
open Go1 (hcode)
open Yg (NewIn)
def goodRecs (h:HD)(l:List Int)(E:Nat)(out:List Int)(n:Nat):List RecP:=(goodL h l E out n).map fun x=>jR h l E out x
theorem aPf {w:World}{b m c:Nat}{A:Option Addr}{L:List Nat}(h:OwnE 3 1 w b A m c (ints L))(f:L.length=m)(k: ∀x∈L,x<9223372036854775808)(i:Nat)(j:i<m): ∃g,A=some ⟨g,0,none⟩∧w.cell? ⟨g,i,none⟩=some (.int .i64 ((L.getD i 0:Nat):Int)):=by
 obtain⟨g,e,_,_,d⟩:=OwnE.cell h (i:=i) (by rw[List.length_map];omega)
 refine⟨g,e,d.trans ?_⟩
 rw[List.getElem?_map,List.getElem?_eq_getElem (by omega),List.getD_eq_getElem?_getD,List.getElem?_eq_getElem (by omega)]
 rfl
attribute [local irreducible] HD.cells wpList Code.wp
end Je
namespace Zh
open Bytes8 Ob Ga Ma Na Nc Za Zb Zc Zd Yp Yh Va Wa
open Rg (arcode)
theorem aHT {o:O}(d:o.Ok)(i a:Nat)(c:i<o.ws.length)(b:a=8*i):u8 o.body a=o.ws.getD i 0:=by rw[b];exact aQf d i c
theorem aNF {l p:List Int}{b:List O}(t:l=p++enc b)(s:p.length=272)(i: ∀o∈b,o.Ok){a r:Nat}{g:Nat×Nat}(hs:shp b a=some ⟨6,1+r,[],g⟩)(z:1≤r):
 ecode l a 6 8 8=0∧arX l a=wd b a 0∧arM l a=r∧ ∀j,j<r→arF (bodyL l a) j=wd b a (1+j):=by
 obtain⟨o,n,m⟩:=aBm hs
 have f:=i o (aCn _ _ _ _ n)
 injection m with h1 h2 h3 h4
 obtain⟨x,u,y,d⟩:=aH2 t s n f
 have q: ∀j,wd b a j=o.ws.getD j 0:=fun j=>by unfold wd;rw[n]
 have c:o.body.length=8*(1+r):=by rw[O.body_len,h2,h3];simp
 have k:ecode l a 6 8 8=0:=by
  unfold ecode
  rw[if_neg (by omega),u,h1,if_neg (by decide),d,c,if_neg (by omega)]
 refine⟨k,?_,?_,fun j hj=>?_⟩
 ·unfold arX
  rw[if_pos k,d,q]
  exact aHT f 0 0 (by omega) rfl
 ·unfold arM arN
  rw[if_pos k,d,c]
  omega
 ·unfold arF
  rw[d,q]
  exact aHT f (1+j) _ (by omega) (by omega)
abbrev toI (l:List Nat):List Int:=l.map fun(x:Nat)=>(x:Int)
theorem aJR {its:List Nat}(c:its.Pairwise (· < ·))(b: ∀x∈its,0<x)(j:Nat)(f:j<its.length):lastI (toI (its.take j))<(its[j]:Int):=by
 rcases Nat.eq_zero_or_pos j with d|d
 ·subst d
  have:=b its[0] (List.getElem_mem _)
  simp[lastI]
  omega
 ·obtain⟨q,rfl⟩: ∃q,j=q+1:=⟨j-1,by omega⟩
  have g:toI (its.take (q+1))=toI (its.take q)++ [(its[q]:Int)]:=by
   show(its.take (q+1)).map (fun(x:Nat)=>(x:Int))=(its.take q).map (fun(x:Nat)=>(x:Int))++ [(its[q]:Int)]
   rw[List.take_succ_eq_append_getElem (by omega),List.map_append]
   rfl
  rw[g,aDf]
  have:=List.pairwise_iff_getElem.1 c q (q+1) (by omega) f (by omega)
  omega
theorem aNG (its:List Nat)(j:Nat)(b:j<its.length):toI (its.take j)++ [(its[j]:Int)]=toI (its.take (j+1)):=by
 show(its.take j).map (fun(x:Nat)=>(x:Int))++ [(its[j]:Int)]=(its.take (j+1)).map (fun(x:Nat)=>(x:Int))
 rw[List.take_succ_eq_append_getElem b,List.map_append]
 rfl
theorem aEt (its:List Nat)(j:Nat)(b:j≤its.length):((toI (its.take j)).length:Int)=(j:Int):=by
 rw[List.length_map,List.length_take];omega
def told (arr its:List Nat)(n na ni:Int):List Int×Int:=if n≤its.length then(toI (its.take n.toNat),0)else(toI its,if its.length=rooms arr.length then na else ni)
theorem aLH {arr its:List Nat}{n na ni:Int}{j:Nat}(b:j≤its.length)(h:(j:Int)=n):told arr its n na ni=(toI (its.take j),0):=by
 unfold told
 rw[if_pos (by omega),show n.toNat=j by omega]
variable {h : HD} {l hd : List Int} {os : List O} {t : Nat} {arr its : List Nat}
theorem aPg (w:ArrW os t arr its)(f:its.Pairwise (· < ·)){E:Nat}(b: ∀x∈its,0<x∧x<E)(n na ni:Int)(K:List Int→List Int×Int)(g:Nat→Int)(k:Nat)(z:k<arr.length)
 (A: ∀j,j<roomN k→g j=wd os arr[k] (1+j))(u:rooms (k+1)≤its.length→((rooms (k+1):Nat):Int)≤n→K (toI (its.take (rooms (k+1))))=told arr its n na ni)(l: ∀o:List Int,(o.length:Int)=n→K o=(o,0)):
 ∀(q j:Nat),q+j=roomN k→rooms k+j≤its.length→((rooms k+j:Nat):Int)≤n→inA K E n ni g q j (toI (its.take (rooms k+j)))=told arr its n na ni:=by
 have s:=aAv k
 intro q
 induction q with
 |zero=>
  intro j B d m
  have e:rooms k+j=rooms (k+1):=by omega
  show K _=_
  rw[e]at d m⊢
  exact u d m
 |succ q ih=>
  intro j B d m
  by_cases i:((rooms k+j:Nat):Int)=n
  ·rw[aFL _ _ _ _ _ _ _ _ (by rw[aEt _ _ d];exact i) (l _ (by rw[aEt _ _ d];exact i))]
   exact(aLH d i).symm
  ·unfold inA
   rw[if_neg (by rw[aEt _ _ d];exact i),A j (by omega),w.it k z j (by omega)]
   by_cases c:rooms k+j<its.length
   ·have p:its.getD (rooms k+j) 0=its[rooms k+j]:=by simp[List.getElem?_eq_getElem c]
    obtain⟨C,F⟩:=b its[rooms k+j] (List.getElem_mem _)
    have y:=aJR f (fun x hx=>(b x hx).1) (rooms k+j) c
    rw[p,if_neg (by simp[nothB];omega),if_neg (by omega),aNG its _ c]
    exact ih (j+1) (by omega) (by omega) (by omega)
   ·have r:rooms k+j=its.length:=by omega
    have p:its.getD (rooms k+j) 0=0:=by simp[List.getElem?_eq_none (Nat.le_of_eq r.symm)]
    rw[p,if_pos (by simp[nothB])]
    have D:=rooms_mono (show k+1≤arr.length by omega)
    unfold told
    rw[if_neg (by omega),if_neg (by omega),r,List.take_length]
theorem aLI (B:l=hd++enc os)(A:hd.length=272)(z: ∀o∈os,o.Ok)(R:h.N 0=272)(w:ArrW os t arr its)(j:its.Pairwise (· < ·))(i: ∀x∈its,0<x∧x<l.length)(n na ni:Int):
 ∀(f k b:Nat),k≤arr.length→rooms k≤its.length→((rooms k:Nat):Int)≤n→(k=0→b=0)→(∀L:0<k,b=arr.getD (k-1) 0)→b≤l.length→l.length+1≤f+b→
  chase h l l.length n na ni f (toI (its.take (rooms k))) (arr.getD k 0) b=told arr its n na ni:=by
 intro f
 induction f with
 |zero=>intro k b _ _ _ _ _ m I;omega
 |succ f ih=>
  intro k b L s Y r u E Z
  by_cases d:((rooms k:Nat):Int)=n
  ·rw[aAN _ _ _ _ _ _ _ _ _ _ (by rw[aEt _ _ s];exact d)]
   exact(aLH s d).symm
  ·unfold chase
   rw[if_neg (by rw[aEt _ _ s];exact d)]
   by_cases y:k=arr.length
   ·subst y
    have p:arr.getD arr.length 0=0:=by simp
    rw[p,if_pos (by simp[nothB])]
    have:=w.le
    unfold told
    rw[if_neg (by omega),if_pos (by omega),show rooms arr.length=its.length by omega,List.take_length]
   ·have c:k<arr.length:=by omega
    have p:arr.getD k 0=arr[k]:=by simp[List.getElem?_eq_getElem c]
    have J:l.length=endO os:=by rw[B,List.length_append,A];rfl
    have X:=aBn (w.sh k c)
    dsimp only at X
    have V:=aAE k
    have q:b<arr[k]:=by
     rcases Nat.eq_zero_or_pos k with m|m
     ·rw[r m];omega
     ·have I:=List.pairwise_iff_getElem.1 w.asc (k-1) k (by omega) c (by omega)
      have h3:=u m
      have e2:arr.getD (k-1) 0=arr[k-1]:=by simp[List.getElem?_eq_getElem (show k-1<arr.length by omega)]
      omega
    obtain⟨r1,G,F,D⟩:=aNF B A z (w.sh k c) (by omega)
    have g:h.N 0≤(arr[k]:Int)∧arr[k]<l.length:=by rw[R];omega
    have M:arcode h l l.length arr[k]=0:=by unfold arcode;rw[if_pos g];exact r1
    have H:(aX9 h l l.length arr[k]).toNat=arr.getD (k+1) 0:=by
     unfold aX9
     rw[if_pos g,G,w.nx k c,Int.toNat_natCast]
    have C:aC9 h l l.length arr[k]=roomN k:=by unfold aC9;rw[if_pos g];exact F
    rw[p,if_neg (by simp[nothB];omega),if_neg (by omega),if_neg (by rw[M];decide),H,C]
    refine aPg w j i n na ni _ _ k c D (fun q1 q2=>?_) (fun o ho=>aAN _ _ _ _ _ _ _ _ _ _ ho) (roomN k) 0 (by omega) (by omega) (by omega)
    exact ih (k+1) arr[k] (by omega) q1 q2 (fun h=>absurd h (by omega)) (fun _=>by rw[Nat.add_sub_cancel];exact p.symm) (by omega) (by omega)
end Zh
namespace Zi
open Go1 (hcode magicB)
end Zi
end Go.Proofs.YtlelnfokffflnaaGreat
