/-
  Texts beneath.
-/
import Derived.Test.YteaikbodkgjkdaaGreatQl40
set_option linter.unusedVariables false
set_option linter.unusedSimpArgs false
set_option maxRecDepth 100000
set_option maxHeartbeats 8000000
open Go.ChangeShapes Go.WideShapes Go.ChangeAt Go.RowKit
namespace Go.Proofs.YteaikbodkgjkdaaGreat
namespace Jj
open Bytes8 Blk8 Own8 OwnE Rows2 Ob Ga Gb Gf Gj Ma Na Np Nr Ns Nt Rc Rn Rr Va Vc Vd Wa Ls Pr8 Ja Jd
open Go1 (hcode)
open Nh (intE)
open Dc (aAe)
open Yg (aAr)
structure FileR (w:World)(gf gv:Nat)(h:HD)(d:Int)(A:Option Addr)(E c:Nat)(l:List Int)(P:Option Addr)(n cp:Nat)(out:List Int)(cd:Int):Prop where
 blk:Blk w gf [.pointer (some ⟨gv,0,none⟩),.slice P n cp,.int .i64 cd] 101
 view:ViewR w gv h d A E c l
 ints:InInts .u64 w P n (fun i=>out.getD i 0)
 len:out.length=n
 nn: ∀y∈out,0≤y∧y≤18446744073709551615
 nb:n≤800000
theorem FileR.below {w w':World}{gf b:Nat}{h:HD}{d:Int}{A:Option Addr}{E c:Nat}{l:List Int}{P:Option Addr}{n cp:Nat}{out:List Int}{cd:Int}(f:FileR w gf b h d A E c l P n cp out cd)(a:Below w.heap.size w w'):FileR w' gf b h d A E c l P n cp out cd:=
 ⟨f.blk.below a f.blk.lt,f.view.below a,f.ints.below a,f.len,f.nn,f.nb⟩
def ROpened (l:List Int)(E:Nat)(w:World)(e:Ending)(w':World):Prop:= ∃(gf gv:Nat) (A2:Option Addr) (c2:Nat) (P:Option Addr) (k cp:Nat),e= .returned (.tuple #[.pointer (some ⟨gf,0,none⟩),.int .i64 0])∧FileR w' gf gv (hdOf l) (Ob.u8 l 248) A2 E c2 (l.take E) P k cp (chase (hdOf l) (l.take E) E ((hdOf l).N 8) 14 2 (E+1) [] ((hdOf l).N 11).toNat 0).1 (chase (hdOf l) (l.take E) E ((hdOf l).N 8) 14 2 (E+1) [] ((hdOf l).N 11).toNat 0).2∧Below w.heap.size w w'
theorem prs_off {w:World}{F:Option Addr}{f:List PR}{g:Nat}{T:TypeId}(j:Prs w F f)(l:w.heap[g]? =some (.cells zR T (0,0))): ∀b off,F=some ⟨b,off,none⟩→0<f.length→b≠g:=fun b off e hl hbg=>by
 obtain⟨b2,d,a,_,k,_⟩:=j.2 0 hl
 rw[e]at a
 injection a with a
 injection a with a e3
 subst a e3 hbg
 have c:w.cell? ⟨b,off+0*2,none⟩=(zR:Array Value)[off+0*2]? :=by simp[World.cell?,l]
 rw[k]at c
 generalize off+0*2=q at c
 have i:q<20:=by
  rcases Nat.lt_or_ge q 20 with h|h
  ·exact h
  ·rw[Array.getElem?_eq_none (by show 20≤q;exact h)]at c;cases c
 rcases q with _|_|_|_|_|_|_|_|_|_|_|_|_|_|_|_|_|_|_|_|q
 all_goals first|(simp at c;done)|omega
attribute [local irreducible] HD.cells wpList Code.wp
theorem aGN (l:List Int)(A:Option Addr)(n c:Nat)(w:World)(s:Bytes w A l)(Y:l.length=n)(hn:n≤800000)(hc:n≤c)(F:hcode l n=0)(E:Nat)(G:endV (hdOf l)=(E:Int))(f:endB (hdOf l)=true)(t:E≤n)(m:(hdOf l).Ok 21):
 Calls Tryz.prog 13 #[.slice A n c] w (ROpened l E w):=by
 have b:=yH (aJK l A n c w s Y hn hc F E G f t m)
 unfold OpenedR at b
 have g:=s.1
 have B:=yH (aEr (h:=hdOf l) (g.take E) (E:=E) (n:=(hdOf l).N 8) (na:=14) (ni:=2) (E+1) [] ((hdOf l).N 11).toNat 0 (aLB E))
 unfold ROpened
 have Z:E≤800000:=by omega
 clear s F G f m
 generalize hdOf l=H at*
 generalize Ob.u8 l 248=X at*
 generalize l.take E=D at*
 have i:=yH fun(W:World) (a:Nat) (r:Option Addr) (q:Nat) (v:ViewR W a H X r E q D)=>Wb.aGG W v
 unfold TellL at i
 generalize chase H D E (H.N 8) 14 2 (E+1) [] (H.N 11).toNat 0=R at*
 obtain⟨out,cd⟩:=R
 dsimp only at*
 go_enter Tryz.func13,Tryz.ntmps13
 go_upto_region 5 with(first
  |(go_at_call 40;((refine b.out.mono ?_);rintro e w1 ⟨a,r,q,rfl,_,I,o⟩;have J:=yH I;have x:=yH o;clear I o))
  |(go_at_call 41;((refine(i.out _ a r q J.out).mono ?_);rintro e w3 ⟨p,P,k,cp,rfl,d,j⟩;have u:=yH p;have L:=yH d;have C:=yH j;clear p d j))
  |fail)
 have R4:=yH (Blk.new w3 [.pointer (some ⟨a,0,none⟩),.slice P k cp,.int .i64 cd] 101)
 have y:=yH ((yB w3.heap.size w3).alloc (yR _) (.cells #[.pointer (some ⟨a,0,none⟩),.slice P k cp,.int .i64 cd] 101))
 have M:=yH ((aGH L.out C.out B.out.2).below y.out)
 have V4:=yH ((J.out.below u.out).below y.out)
 have BB:=yH ((x.out.trans (u.out.mono x.out.size)).trans (y.out.mono (Nat.le_trans x.out.size u.out.size)))
 have V:=C.out
 have z:=B.out
 go_wp2_with fail
 go_ret2
 refine⟨_,a,r,q,P,k,cp,rfl,⟨R4.out,V4.out,M.out,V,z.2,?_⟩,BB.out⟩
 have h6:=z.1
 unfold Up at h6
 omega
theorem aLI {w:World}{gf B:Nat}{h:HD}{d:Int}{A:Option Addr}{E c:Nat}{l:List Int}{P:Option Addr}{n cp:Nat}{out:List Int}{cd:Int}(f:FileR w gf B h d A E c l P n cp out cd)(x:Nat)(hx:x<n):Calls Tryz.prog 96 #[.pointer (some ⟨gf,0,none⟩),.int .i64 (x:Int)] w (TellR (recP h l E (out.getD x 0).toNat) (rcode h l E (out.getD x 0).toNat) w):=by
 have t:=yH ((yB w.heap.size w).alloc (yR _) (.cells zR 64))
 have k0:(w.alloc (.cells zR 64)).cell? ⟨gf,0,none⟩=some (.pointer (some ⟨B,0,none⟩)):=(t.out.cell (p:=⟨gf,0,none⟩) f.blk.lt).trans (f.blk.cell (i:=0) rfl)
 have k1:(w.alloc (.cells zR 64)).cell? ⟨gf,1,none⟩=some (.slice P n cp):=(t.out.cell (p:=⟨gf,1,none⟩) f.blk.lt).trans (f.blk.cell (i:=1) rfl)
 have Z1:=yH (heap_alloc_new w (.cells zR 64))
 have ad:(w.alloc (.cells zR 64)).heap.size=w.heap.size+1:=by simp
 have d1:decide ((x:Int)<0)=false:=by simp
 have d2:decide ((n:Int)≤(x:Int))=false:=by simp;omega
 have ae:(x:Int)<(n:Int):=by omega
 obtain⟨a,ha⟩: ∃a:Nat,out.getD x 0=(a:Int):=by
  have u:x<out.length:=by rw[f.len];exact hx
  have e:out.getD x 0=out[x]:=by simp[yG u]
  have:=f.nn _ (List.getElem_mem u)
  exact⟨out[x].toNat,by rw[e];omega⟩
 have J:AllB l:=f.view.by_.1
 have o:=aLo h E (out.getD x 0).toNat J
 rw[ha]at o⊢
 rw[Int.toNat_natCast]at o⊢
 have HR:=yH fun(W:World) (hW:Below w.heap.size w W)=>aNA a W (f.view.below hW)
 have X:P.isSome∨True:= .inr trivial
 obtain⟨m,r,rfl,Y,q,_⟩:=f.ints x hx
 dsimp only at q
 rw[ha]at q
 have kP:(w.alloc (.cells zR 64)).cell? ⟨m,r+x,none⟩=some (.int .u64 (a:Int)):=(t.out.cell (p:=⟨m,r+x,none⟩) Y).trans q
 have aa:=f.blk.lt
 unfold TellR at HR⊢
 have ac:=yH o
 clear f o q X
 generalize recP h l E a=R at*
 generalize rcode h l E a=M at*
 obtain⟨rs,L,N,Z,H,D⟩:=R
 dsimp only at*
 go_enter Tryz.func96,Tryz.ntmps96
 go_upto_region 3 with fail
 generalize ab:w.alloc (.cells zR 64)=s at*
 have V:=yH fun(W:World) (hW:Below s.heap.size s W)=>show W.cell? ⟨gf,0,none⟩=some (.pointer (some ⟨B,0,none⟩))∧W.cell? ⟨gf,1,none⟩=some (.slice (some ⟨m,r,none⟩) n cp)∧W.cell? ⟨m,r+x,none⟩=some (.int .u64 (a:Int))from
  ⟨(hW.cell (p:=⟨gf,0,none⟩) (by show gf<_;omega)).trans k0,(hW.cell (p:=⟨gf,1,none⟩) (by show gf<_;omega)).trans k1,(hW.cell (p:=⟨m,r+x,none⟩) (by show m<_;omega)).trans kP⟩
 have z:=yH (show Below s.heap.size s s.drew from(yB s.heap.size s).drew)
 refine wp_region_noPanic ?_
 refine wp_region_held_drew (S:=fun W:World=>W.cell? ⟨gf,0,none⟩=some (.pointer (some ⟨B,0,none⟩))∧W.cell? ⟨gf,1,none⟩=some (.slice (some ⟨m,r,none⟩) n cp)∧W.cell? ⟨m,r+x,none⟩=some (.int .u64 (a:Int))) (by kernel_rfl) (by exact V.out _ z.out) (fun hHeld=>?_)
 refine tq 0 18 rfl (fun W hSw=>by obtain⟨j,g,k⟩:=hSw;go_simp;try (with_reducible rfl)) ?_
 try simp only[Act.put,sA,sZ,sS]
 refine tq 1 19 rfl (fun W hSw=>by obtain⟨j,g,k⟩:=hSw;go_simp;try (with_reducible rfl)) ?_
 try simp only[Act.put,sA,sZ,sS]
 refine tq 2 20 rfl (fun W hSw=>by obtain⟨j,g,k⟩:=hSw;go_simp;try (with_reducible rfl)) ?_
 try simp only[Act.put,sA,sZ,sS]
 refine tq 3 21 rfl (fun W hSw=>by obtain⟨j,g,k⟩:=hSw;go_simp;try (with_reducible rfl)) ?_
 try simp only[Act.put,sA,sZ,sS]
 refine tq 4 22 rfl (fun W hSw=>by obtain⟨j,g,k⟩:=hSw;go_simp;try (with_reducible rfl)) ?_
 try simp only[Act.put,sA,sZ,sS]
 refine tq 5 23 rfl (fun W hSw=>by obtain⟨j,g,k⟩:=hSw;go_simp;try (with_reducible rfl)) ?_
 try simp only[Act.put,sA,sZ,sS]
 refine tq 6 24 rfl (fun W hSw=>by obtain⟨j,g,k⟩:=hSw;go_simp;try (with_reducible rfl)) ?_
 try simp only[Act.put,sA,sZ,sS]
 refine tq 7 25 rfl (fun W hSw=>by obtain⟨j,g,k⟩:=hSw;go_simp;try (with_reducible rfl)) ?_
 try simp only[Act.put,sA,sZ,sS]
 refine tq 8 26 rfl (fun W hSw=>by obtain⟨j,g,k⟩:=hSw;go_simp;try (with_reducible rfl)) ?_
 try simp only[Act.put,sA,sZ,sS]
 refine tq 9 27 rfl (fun W hSw=>by obtain⟨j,g,k⟩:=hSw;go_simp;try (with_reducible rfl)) ?_
 try simp only[Act.put,sA,sZ,sS]
 refine tq 10 28 rfl (fun W hSw=>by obtain⟨j,g,k⟩:=hSw;go_simp;try (with_reducible rfl)) ?_
 try simp only[Act.put,sA,sZ,sS]
 refine rd 11 rfl (fun KK hKK=>?_)
 go_simp
 ((refine(HR.out _ (t.out.trans (z.out.mono (by omega)))).mono ?_);rintro e w2 ⟨F,C,rfl,hp,y⟩;have HP:=yH hp;have b2:=yH (z.out.trans (y.mono z.out.size));have G:=yH ((b2.out.block w.heap.size (by omega)).trans Z1.out);clear hp y)
 try go_wp2_with fail
 refine hKK.out _ _ (by exact(V.out _ b2.out)) (fun hHeld=>?_)
 clear hKK KK
 try simp only[Act.put,sA,sZ,sS]
 refine tq 12 30 rfl (fun W hSw=>by obtain⟨j,g,k⟩:=hSw;go_simp;try (with_reducible rfl)) ?_
 try simp only[Act.put,sA,sZ,sS]
 refine tq 13 31 rfl (fun W hSw=>by obtain⟨j,g,k⟩:=hSw;go_simp;try (with_reducible rfl)) ?_
 try simp only[Act.put,sA,sZ,sS]
 refine rd 14 rfl (fun KK hKK=>?_)
 split
 ·refine wp_store_row 64 (.tmp 4) (.tmp 30) rfl w.heap.size (recL rs L N Z (.slice F H C)).toArray rfl rfl 64 zR G.out (aAm _ _ _ _ _) rfl (by simp[Value.oneCell']) ?_
  have bF:=yH (below_setRow (t.out.trans (b2.out.mono (by omega))) (yR w.heap.size) (recL rs L N Z (.slice F H C)).toArray)
  refine hKK.out _ _ (by
   obtain⟨q1,q2,q3⟩:=V.out _ b2.out
   exact⟨(World.cell?_of_block (a:=⟨gf,0,none⟩) (setRow_other _ _ _ _ (show gf≠w.heap.size by omega))).trans q1,(World.cell?_of_block (a:=⟨gf,1,none⟩) (setRow_other _ _ _ _ (show gf≠w.heap.size by omega))).trans q2,(World.cell?_of_block (a:=⟨m,r+x,none⟩) (setRow_other _ _ _ _ (show m≠w.heap.size by omega))).trans q3⟩) (fun hHeld=>?_)
  clear hKK KK
  try simp only[Act.put,sA,sZ,sS]
  refine tq 15 5 rfl (fun W hSw=>by obtain⟨j,g,k⟩:=hSw;go_simp;try (with_reducible rfl)) ?_
  try simp only[Act.put,sA,sZ,sS]
  refine wpAnyH_done (by kernel_rfl) ?_ _
  refine NoPanic.normal ?_
  go_wp2_with fail
  refine bodyPost_ret (v:= .tuple #[.agg (recL rs L N Z (.slice F H C)).toArray,.int .i64 M]) (by exact aAr Tryz.results96 _ _ w.heap.size 64 _ (0,0) _ _ rfl rfl (setRow_heap _ _ _ _ _ (0,0) G.out) Tryz.underlying64 rfl (aAm _ _ _ _ _)) rfl ?_
  refine⟨F,⟨C,rfl⟩,?_,bF.out⟩
  rcases Nat.eq_zero_or_pos D.length with I|I
  ·rw[List.eq_nil_of_length_eq_zero I]
   exact Prs.nil _ _
  ·exact HP.out.keptB (by rw[setRow_size];exact yR _) fun b off e hb=>setRow_other _ _ _ _ (prs_off HP.out G.out b off e I)
 ·next hno=>exact absurd (by rfl) hno
theorem aLJ {w:World}{gf gv:Nat}{h:HD}{d:Int}{A:Option Addr}{E c:Nat}{l:List Int}{P:Option Addr}{n cp:Nat}{out:List Int}{cd:Int}(f:FileR w gf gv h d A E c l P n cp out cd):
 Calls Tryz.prog 52 #[.pointer (some ⟨gf,0,none⟩)] w fun e w'=> ∃v m y,e= .returned (.slice v m y)∧OwnE 3 1 w' w.heap.size v m y (ints (goodL h l E out n))∧(goodL h l E out n).length=m∧Below w.heap.size w w':=by
 have k1:=f.blk.cell (i:=1) rfl
 have ae:=yH f.blk.lt
 have ag:=f.nb
 have HR:=yH fun(x:Nat) (hx:x<n) (W:World) (hW:Below w.heap.size w W)=>aLI (f.below hW) x hx
 have X:=fun k=>aAR (jC h l E out) (fun x=>(jR h l E out x).s) k
 unfold goodL
 have hC: ∀x,jC h l E out x=rcode h l E (out.getD x 0).toNat:=fun _=>rfl
 have hR: ∀x,jR h l E out x=recP h l E (out.getD x 0).toNat:=fun _=>rfl
 simp only[←hC,←hR]at HR
 clear f hC hR
 generalize hS:(fun x=>(jR h l E out x).s)=S at*
 generalize jR h l E out=R at*
 generalize jC h l E out=C at*
 unfold TellR at HR
 have aa:=yH X
 clear X
 go_enter Tryz.func52,Tryz.ntmps52
 go_wp2_with fail
 go_loopw [3,4,5] (fun s g i wr=> ∃(k m:Nat) (v:Option Addr) (y:Nat),k≤n∧s= .slice v m y∧g= .int .u64 (goodR C S k).2∧i= .int .i64 (k:Int)∧Hid (OwnE 3 1 wr w.heap.size v m y (ints (goodR C S k).1))∧Hid ((goodR C S k).1.length=m)∧Hid (Below w.heap.size w wr)) (fun _ _ i _=>n-Rn.natOf i)
 case atStart=>exact⟨0,0,none,0,Nat.zero_le _,rfl,rfl,rfl,yH (OwnE.nil w w.heap.size (yR _)),yH rfl,yH (yB _ _)⟩
 case round=>
  obtain⟨k,m,v,y,hk,rfl,rfl,rfl,hO,hL,hB⟩:=hrel
  have ak:wr.cell? ⟨gf,1,none⟩=some (.slice P n cp):=(hB.out.cell (p:=⟨gf,1,none⟩) ae.out).trans k1
  by_cases z:k<n
  ·have ad:decide ((k:Int)<(n:Int))=true:=by simp;omega
   have ai:IntKind.i64.wrap ((k:Int)+1)=((k+1:Nat):Int):=by rw[IntKind.wrap_i64];omega
   have G:=yH (HR.out k z wr hB.out)
   have hm:=(aa.out k).2.1
   have B:=hL.out
   have j:=yH (aCo (C:=C) (S:=S) (k:=k))
   have b:=yH (aDA (C:=C) (S:=S) (k:=k))
   have ab:S k=(R k).s:=by rw[←hS]
   rw[ab]at j b
   clear HR aa ab
   generalize goodR C S k=q at*
   obtain⟨L,gr⟩:=q
   dsimp only at hO hL hm B j b
   generalize C k=ck at*
   generalize R k=r at*
   obtain⟨rs,rr,rm,Z,rn,aj⟩:=r
   dsimp only at G j b
   clear hS
   go_upto_region 7 with(first
    |(go_at_call 96;(refine G.out.mono ?_);rintro e w2 ⟨F,M,rfl,_,H⟩;have B2:=yH (hB.out.trans (H.mono hB.out.size));have O2:=yH (hO.out.kept H (yR _));clear H)
    |((with_reducible apply aAa (.tmp 6) (.tmp 21));refine wpList_store_row rfl 64 (.tmp 6) (.tmp 21) rfl w2.heap.size (recL rs rr rm Z (.slice F rn M)).toArray rfl rfl 64 zR (heap_alloc_new w2 _) (aAm _ _ _ _ _) rfl (by simp[Value.oneCell']) ?_)
    |fail)
   have R3:=yH (show Blk ((w2.alloc (.cells zR 64)).setRow w2.heap.size (recL rs rr rm Z (.slice F rn M)).toArray) w2.heap.size (recL rs rr rm Z (.slice F rn M)) 64 from setRow_heap _ _ _ _ _ (0,0) (heap_alloc_new w2 _))
   have b3:=yH (show Below w2.heap.size w2 ((w2.alloc (.cells zR 64)).setRow w2.heap.size (recL rs rr rm Z (.slice F rn M)).toArray)from below_setRow ((yB _ _).alloc (yR _) _) (yR _) _)
   have O3:=yH (O2.out.kept b3.out (yR _))
   have af:=yH (fun k hk=>(show k<w2.heap.size from(Dc.OwnE.ltB O2.out k hk).2))
   have V:=yH (B2.out.trans (b3.out.mono B2.out.size))
   clear b3 G hO
   generalize (w2.alloc (.cells zR 64)).setRow w2.heap.size (recL rs rr rm Z (.slice F rn M)).toArray=w3 at*
   have ah:=B2.out.size
   clear O2 B2
   generalize w2.heap.size=g2 at*
   have k0:w3.cell? ⟨g2,0,none⟩=some (.int .u64 rs):=R3.out.cell (i:=0) rfl
   by_cases t:ck=0
   ·subst t
    by_cases hg:gr<rs
    ·have D:=j.out ⟨rfl,hg⟩
     have o:=yH D
     have d1:decide (gr<rs)=true:=by simp;omega
     have Y:=yH (R3.out.alloc (.cells #[.int .i64 (k:Int)] 3))
     clear j b hg D
     go_upto_region 9 with(first
      |(at_builtin;refine aAe intE rfl (.tmp 31) (.tmp 33) rfl w.heap.size v m y (ints L) rfl (OwnE.alloc O3.out _) ⟨w3.heap.size,0,none⟩ 1 1 [.int .i64 (k:Int)] rfl rfl (Blk.news (Blk.new w3 [.int .i64 (k:Int)] 3)) (by intro u hu;simp at hu;subst hu;rfl) (by omega) (by omega) (by unfold maxLen;omega) ?_;intro A6 c6 w6 I N J;have O6:=yH I;have G6:=yH N;clear I N J)
      |fail)
     have B6:=yH ((V.out.alloc V.out.size (.cells #[.int .i64 (k:Int)] 3)).trans (Own8.below_grown G6.out (by have:=V.out.size;simp;omega) (fun k hk=>(Dc.OwnE.ltB O3.out k hk).1)))
     have k6:w6.cell? ⟨g2,0,none⟩=some (.int .u64 rs):=(World.cell?_of_block (a:=⟨g2,0,none⟩) (G6.out.block g2 Y.out.lt (fun e=>by have h2:=af.out g2 e.symm;omega))).trans (Y.out.cell (i:=0) rfl)
     go_wp2_with fail
     go_roundw
     case rel=>exact⟨k+1,m+1,A6,c6,z,rfl,by rw[o.out],rfl,yH (by rw[o.out,aGM];exact O6.out),yH (by rw[o.out,yA,List.length_singleton,B]),B6⟩
     case measure=>simp[Rn.natOf];omega
    ·have D:=b.out (fun h=>hg h.2)
     have o:=yH D
     have d1:decide (gr<rs)=false:=by simp;omega
     clear j b hg D
     go_wp2_with fail
     go_roundw
     case rel=>exact⟨k+1,m,v,y,z,rfl,by rw[o.out],rfl,yH (by rw[o.out];exact O3.out),yH (by rw[o.out];exact B),V⟩
     case measure=>simp[Rn.natOf];omega
   ·have D:=b.out (fun h=>t h.1)
    have o:=yH D
    have d0:decide (ck=0)=false:=by simpa using t
    have d1:(ck==0)=false:=by simpa using t
    clear j b t D
    go_wp2_with fail
    go_roundw
    case rel=>exact⟨k+1,m,v,y,z,rfl,by rw[o.out],rfl,yH (by rw[o.out];exact O3.out),yH (by rw[o.out];exact B),V⟩
    case measure=>simp[Rn.natOf];omega
  ·have ad:decide ((k:Int)<(n:Int))=false:=by simp;omega
   have ac:k=n:=by omega
   subst ac
   go_wp2_with fail
   go_ret
   exact⟨v,m,y,rfl,hO.out,hL.out,hB.out⟩
end Jj
namespace Zk
open Bytes8 Blk8 Ya Ob Ga Ma Mb Mg Na Nc Nh Nl Np Nq Ns Nt Nu Fa Yd Yc Yp Yg Yj Za Zb Zc Zd Ze Zg Zh Zj Pr8 Ps8 Pl8 Rj Rk Rm Rn Rr Va
open Rd (dcode dz)
open Ri (ecode9)
abbrev W64 (x:Int):Prop:=0≤x∧x≤18446744073709551615
theorem aGO (s r m:Int)(K:Nat→Int)(x:Int)(a:List Int):entB s r m K x a=nums [s,r,m]++(idL K++(nums [x]++nums a)):=by unfold entB;simp
theorem aNH (s r m:Int)(K:Nat→Int)(x:Int)(a:List Int)(hs:W64 s)(c:W64 r)(b:W64 m)(d:W64 x):
 u8 (entB s r m K x a) 0=s∧u8 (entB s r m K x a) 8=r∧u8 (entB s r m K x a) 16=m∧u8 (entB s r m K x a) 40=x:=by
 rw[aGO]
 refine⟨nums_at [s,r,m] _ 0 0 rfl (by simp) hs,nums_at [s,r,m] _ 1 8 rfl (by simp) c,nums_at [s,r,m] _ 2 16 rfl (by simp) b,?_⟩
 have h:=aDo (nums [s,r,m]++idL K) (nums [x]++nums a) 40 0 (by rw[yA,nums_len];rfl)
 rw[List.append_assoc]at h
 rw[h]
 exact nums_at [x] _ 0 0 rfl (by simp) d
theorem aQv (s r m:Int)(K:Nat→Int)(x:Int)(b:List Int)(i:Nat)(a:i<16):itK (entB s r m K x b) i=K i:=by
 unfold itK
 rw[if_pos a,aGO,yD,List.getElem?_append_right (by rw[nums_len];simp),nums_len]
 rw[show 24+i-8* [s,r,m].length=i by simp,List.getElem?_append_left (by simpa [idL]using a)]
 unfold idL
 rcases i with _|_|_|_|_|_|_|_|_|_|_|_|_|_|_|_|i
 all_goals first|rfl|omega
theorem aLK (s r m:Int)(K:Nat→Int)(x:Int)(f g:Nat→Int)(n i:Nat)(d:i<n)(b:Wd f n)(c:Wd g n):
 itA (entB s r m K x (prs f g n)) i=f i∧itH (entB s r m K x (prs f g n)) i=g i:=by
 unfold itA itH entB
 have a:(nums [s,r,m]++idL K++nums [x]).length=48:=by rw[yA,yA,nums_len,nums_len];rfl
 have h:=aMB f g n i d b c []
 rw[List.append_nil]at h
 rw[aDo _ _ 48 _ a,Nat.add_assoc,aDo _ _ 48 _ a]
 exact h
theorem aPh {l m:List (List Int)}(h:l.Perm m):xr l=xr m:=by
 induction h with
 |nil=>rfl
 |cons x _ ih=>rw[aBt,aBt,ih]
 |swap x y l=>rw[aBt,aBt,aBt,aBt,Nat.xor_assoc,Nat.xor_assoc,Nat.xor_comm (lookN x)]
 |trans _ _ h1 h2=>exact h1.trans h2
theorem aLL {f:Nat→Int}: ∀ {n:Nat},(∀i,i+1<n→f i<f (i+1))→risB f n=true
 |0,_=>rfl
 |1,_=>rfl
 |n+2,h=>by
  unfold risB
  rw[aLL (n:=n+1) (fun i hi=>h i (by omega))]
  simpa using h n (by omega)
theorem aLM {who:List Nat}{T:Nat→List Int}{P:Nat→List Int}(h: ∀i (hi:i<who.length),P i=T who[i]):rowsL P who.length=who.map T:=by
 unfold rowsL
 refine List.ext_getElem (by simp) fun i h1 h2=>?_
 rw[List.getElem_map,List.getElem_map,List.getElem_range]
 exact h i (by simpa using h2)
theorem aP8 (H:HD)(C:Cf)(b:H.ic=if C.keyed then 4 else 0)(a: ∀i,i<16→H.I i=C.F i):keyB H.ic=C.keyed∧idL H.I=Cf.file C:=by
 refine⟨?_,?_⟩
 ·rw[b]
  cases C.keyed
  ·rfl
  ·rfl
 ·unfold idL Cf.file idL
  rw[a 0 (by decide),a 1 (by decide),a 2 (by decide),a 3 (by decide),a 4 (by decide),a 5 (by decide),a 6 (by decide),a 7 (by decide),a 8 (by decide),a 9 (by decide),a 10 (by decide),a 11 (by decide),a 12 (by decide),a 13 (by decide),a 14 (by decide),a 15 (by decide)]
theorem aLN {m:Mk}{g:List O}{hs:Nat→List Nat}{R:List Nat}{M:List (Nat×List Int)}(u:Hold m g hs R M){H:HD}{l q:List Int}(s:l=q++enc g)(t:q.length=272)(A:H.N 0=272)(j:H.ic=if m.C.keyed then 4 else 0)(L: ∀i,i<16→H.I i=m.C.F i){x:Nat}(v:x<m.datas.length)(f:(Mk.kn m x).text≠ []):
 hcode9 H l l.length (Mk.kn m x).at_=0∧bnum l (Mk.kn m x).at_ 1 6 0=Mk.sum m (Mk.kn m x).text∧bpay l (Mk.kn m x).at_ 1 6=(Mk.kn m x).text∧(Mk.kn m x).at_<l.length:=by
 have D:=u.dat x v
 rw[kn_at v]at f⊢
 generalize m.datas[x]=d at*
 obtain⟨o,k,n⟩:=aBm D.sh
 have r:=u.rep.ok o (aCn _ _ _ _ k)
 injection n with h1 h2 h3 h4
 obtain⟨X,J,Y,p⟩:=aHZ s t k r
 have B:=List.length_pos_iff.2 f
 have z:o.body.length=48+d.text.length:=by rw[O.body_len,h2,h3]
 have c:bcode l d.at_ 1 6=0:=by
  unfold bcode
  rw[if_neg (by omega),J,h1,if_neg (by decide),p,if_neg (by omega)]
 have G:l.length=endO g:=by rw[s,yA,t];rfl
 have e:=aBn D.sh
 dsimp only at e
 have w:272≤d.at_:=e.1
 have b:bnum l d.at_ 1 6 0=Mk.sum m d.text:=by
  unfold bnum
  rw[if_pos c,p,show 8*0=0 from rfl,aHQ r 0 0 (by omega) rfl,←D.w0]
  unfold wd
  rw[k]
 have a:bpay l d.at_ 1 6=d.text:=by
  unfold bpay
  rw[if_pos c,p]
  unfold O.body
  rw[List.drop_left' (by rw[nums_len,h2]),h3]
 have E:dcode H l l.length d.at_=0:=by
  unfold dcode
  rw[if_pos ⟨by rw[A];omega,by omega⟩,c]
 obtain⟨y,V⟩:=aP8 H m.C j L
 refine⟨?_,b,a,by omega⟩
 unfold hcode9
 rw[if_neg (by omega),b,a,y,V]
 exact if_pos rfl
theorem aNI {m:Mk}{rs:List RR}{os:List O}{hs:Nat→List Nat}{v:List Nat}{B:List (Nat×List Int)}(k:Kept m rs.length os hs v B)(q:Recs m rs B){H:HD}{l hd:List Int}(hl:l=hd++enc os)(hh:hd.length=272)(h0:H.N 0=272)(ak:H.ic=m.h.ic)(hI: ∀i,i<16→H.I i=m.h.I i)(i:Nat)(M:i<rs.length):
 rcode H l l.length (v.getD i 0)=0∧(recP H l l.length (v.getD i 0)).s=m.h.N 9-rs.length+i+1∧(recP H l l.length (v.getD i 0)).r=rs[i].2.1∧(recP H l l.length (v.getD i 0)).m=rs[i].2.2.1∧(∀j,j<16→(recP H l l.length (v.getD i 0)).K j=rs[i].2.2.2 j)∧(∀x,x∈(recP H l l.length (v.getD i 0)).pl↔x∈listL rs[i].1):=by
 have u:i<B.length:=by have:=q.len;omega
 have ai:v.getD i 0=B[i].1:=by
  rw[←k.ent,yD,yG (by rw[List.length_map];exact u),List.getElem_map];rfl
 have af:=k.bd B[i].1 (by rw[←k.ent];exact List.mem_map.2 ⟨_,List.getElem_mem u,rfl⟩)
 rw[ai]
 have hE:=k.hold.ent i u
 obtain⟨who,w1,w2,w3,w4⟩:=q.ent i M u
 have hr:=q.ok rs[i] (List.getElem_mem M)
 have ar:=q.base
 have aq:=q.top
 have J:H.ic=if m.C.keyed then 4 else 0:=ak.trans q.ic
 have ae: ∀i,i<16→H.I i=m.C.F i:=fun i M=>(hI i M).trans (q.I i M)
 generalize rs[i]=r at*
 obtain⟨L,real,mono,K⟩:=r
 obtain⟨r1,r2,r3,r4,r5⟩:=hr
 dsimp only at r1 r2 r3 r4 r5 w3 w4⊢
 have ag:W64 (m.h.N 9-(rs.length:Int)+(i:Int)+1):=⟨by omega,by omega⟩
 have Z:m.h.N 9-(rs.length:Int)+(i:Int)+1≠0:=by omega
 generalize m.h.N 9-(rs.length:Int)+(i:Int)+1=sq at*
 generalize B[i]=e at*
 obtain⟨a,body⟩:=e
 dsimp only at hE af w4⊢
 obtain⟨n16,z⟩:=aHB r1
 have V:listL L≠ []:=by
  unfold listL
  rw[if_pos r1]
  have hL:L≠ []:=fun h=>by unfold listE at r1;rw[if_pos h]at r1;cases r1
  obtain⟨y,hy⟩:=List.exists_mem_of_ne_nil _ hL
  exact List.ne_nil_of_mem ((aBb _ y).2 ((aC0 L y).2 hy))
 have ah:who.length=(listL L).length:=by have:=w3.length_eq;rwa[List.length_map,List.length_map]at this
 have ap:0<who.length:=by rw[ah];exact List.length_pos_iff.2 V
 have g: ∀x∈who,∃p∈listL L,(Mk.kn m x).text=pay p.1 p.2∧flawI p.1 p.2=0:=fun x c=>by
  obtain⟨p,hp,e⟩:=List.mem_map.1 (w3.mem_iff.1 (List.mem_map.2 ⟨x,c,rfl⟩))
  exact⟨p,hp,e.symm,(z p hp).2⟩
 have ac: ∀x∈who,(Mk.kn m x).text≠ []:=fun x c=>by
  obtain⟨p,_,e,_⟩:=g x c
  rw[e];unfold pay;simp
 have A: ∀x∈who,_:=fun x c=>aLN k.hold hl hh h0 J ae (w1 x c) (ac x c)
 have ao:l.length=endO os:=by rw[hl,yA,hh];rfl
 have an:=k.hold.rep.size
 have am:=k.good.img.len
 have hf:Wd (fun i=>((Mk.kn m (who.getD i 0)).at_:Int)) who.length:=fun j hj=>by
  have:=(A _ (List.getElem_mem hj)).2.2.2
  rw[←getD_lt hj]at this
  dsimp only
  omega
 have hg:Wd (fun i=>Mk.sum m (Mk.kn m (who.getD i 0)).text) who.length:=fun j hj=>by
  have D:=k.hold.dat _ (w1 _ (List.getElem_mem hj))
  have h2:=aPZ k.hold.rep (a:=(m.datas[who[j]]'(w1 _ (List.getElem_mem hj))).at_) (j:=0)
  rw[D.w0]at h2
  dsimp only
  rw[getD_lt hj,kn_at (w1 _ (List.getElem_mem hj))]
  exact h2
 have hX:W64 ((xr ((listL L).map fun q=>pay q.1 q.2):Nat):Int):=by
  have:=aPi ((listL L).map fun q=>pay q.1 q.2)
  exact⟨by omega,by omega⟩
 obtain⟨o,ho,al⟩:=aBm hE
 have ok:=k.hold.rep.ok o (aCn _ _ _ _ ho)
 injection al with h1 h2 h3 h4
 obtain⟨c1,c2,c3,n⟩:=aHZ hl hh ho ok
 have aj:o.body=body:=by
  unfold O.body
  rw[List.eq_nil_of_length_eq_zero h2,h3]
  rfl
 rw[aj]at c3 n
 have ab:body.length=48+16*who.length:=by rw[w4,aDC]
 obtain⟨n0,n8,w,X⟩:=aNH sq real mono K _ (prs (fun i=>((Mk.kn m (who.getD i 0)).at_:Int)) (fun i=>Mk.sum m (Mk.kn m (who.getD i 0)).text) who.length) ag r3 r4 hX
 have d:=fun j hj=>aLK sq real mono K ((xr ((listL L).map fun q=>pay q.1 q.2):Nat):Int) (fun i=>((Mk.kn m (who.getD i 0)).at_:Int)) (fun i=>Mk.sum m (Mk.kn m (who.getD i 0)).text) who.length j hj hf hg
 have Y:=fun j hj=>aQv sq real mono K ((xr ((listL L).map fun q=>pay q.1 q.2):Nat):Int) (prs (fun i=>((Mk.kn m (who.getD i 0)).at_:Int)) (fun i=>Mk.sum m (Mk.kn m (who.getD i 0)).text) who.length) j hj
 rw[←w4]at n0 n8 w X d Y
 have hN:itN body=who.length:=by unfold itN;omega
 have R:risB (itA body) who.length=true:=by
  rw[aLY (fun j hj=>(d j hj).1)]
  refine aLL fun j hj=>?_
  have h5:=List.pairwise_iff_getElem.1 w2 j (j+1) (by omega) (by omega) (by omega)
  try dsimp only
  rw[getD_lt (by omega),getD_lt (by omega)]
  omega
 have au:ecode l a 3 48 16=0:=by
  unfold ecode
  rw[if_neg (by omega),c2,h1,if_neg (by decide),n,ab,if_neg (by omega)]
 have f:entC0 l a=0:=by
  unfold entC0
  rw[if_neg (by omega),n,n0,if_neg Z,hN,R]
  rfl
 obtain⟨t1,t2,t3⟩:=aFe f
 rw[n]at t2 t3
 have G:ecode9 H l l.length a=0:=by
  unfold ecode9
  rw[if_pos ⟨by rw[h0];omega,by omega⟩,f]
 have hP: ∀j (hj:j<who.length),payP l (itA body) j=(Mk.kn m who[j]).text:=fun j hj=>by
  show bpay l (itA body j).toNat 1 6=_
  rw[(d j hj).1]
  try dsimp only
  rw[getD_lt hj,Int.toNat_natCast]
  exact(A _ (List.getElem_mem hj)).2.2.1
 have b:rowsL (payP l (itA body)) who.length=who.map fun x=>(Mk.kn m x).text:=aLM hP
 have aa: ∀j,j<who.length→icode H l l.length (itA body) (itH body) j=0:=fun j hj=>by
  obtain⟨p1,p2,p3,p4⟩:=A _ (List.getElem_mem hj)
  have e1:itA body j=((Mk.kn m who[j]).at_:Int):=by rw[(d j hj).1];(try dsimp only);rw[getD_lt hj]
  have e2:itH body j=Mk.sum m (Mk.kn m who[j]).text:=by rw[(d j hj).2];(try dsimp only);rw[getD_lt hj]
  rw[aBG e1 p1 (p2.trans e2.symm),p3]
  obtain⟨p,_,e,fl⟩:=g _ (List.getElem_mem hj)
  rw[e]
  exact(aBa fl).1
 have E:rcode H l l.length a=0:=by
  unfold rcode
  rw[t3,hN,n]
  refine(aLn H l l.length _ who.length (itA body) (itH body) _).e G (by omega) aa ?_
  rw[t1,n,X,b,aPh w3]
 unfold recP
 rw[if_pos E]
 refine⟨E,?_,?_,?_,fun j hj=>?_,fun x=>?_⟩
 ·show eNum l a 0=sq;rw[t1,n,n0]
 ·show eNum l a 8=real;rw[t1,n,n8]
 ·show eNum l a 16=mono;rw[t1,n,w]
 ·show eK l a j=K j;rw[t2];exact Y j hj
 ·show x∈prsL (payP l (itA (bodyL l a))) (eN l a)↔_
  rw[t3,hN,n]
  have ad:prsL (payP l (itA body)) who.length=(who.map fun x=>(Mk.kn m x).text).map fun t=>(splitN t,splitV t):=by
   rw[←b]
   unfold prsL rowsL
   rw[List.map_map]
   rfl
  rw[ad]
  constructor
  ·intro c
   obtain⟨t,ht,e⟩:=List.mem_map.1 c
   obtain⟨p,hp,e2⟩:=List.mem_map.1 (w3.mem_iff.1 ht)
   obtain⟨_,s2,s3⟩:=aBa (z p hp).2
   rw[←e,←e2]
   try dsimp only
   rw[s2,s3]
   exact hp
  ·intro c
   obtain⟨_,s2,s3⟩:=aBa (z x c).2
   refine List.mem_map.2 ⟨pay x.1 x.2,w3.mem_iff.2 (List.mem_map.2 ⟨x,c,rfl⟩),?_⟩
   rw[s2,s3]
end Zk
end Go.Proofs.YteaikbodkgjkdaaGreat
