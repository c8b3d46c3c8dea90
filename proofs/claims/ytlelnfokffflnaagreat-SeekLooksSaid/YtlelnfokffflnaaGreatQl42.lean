/-
  Texts beneath the proof.
-/
import Derived.Test.YtlelnfokffflnaaGreatQl41
set_option linter.unusedVariables false
set_option linter.unusedSimpArgs false
set_option maxRecDepth 100000
set_option maxHeartbeats 8000000
open Go.ChangeShapes Go.WideShapes Go.ChangeAt Go.RowKit
namespace Go.Proofs.YtlelnfokffflnaaGreat
namespace Jj
open Bytes8 Blk8 Own8 OwnE Rows2 Ob Ga Gb Gf Gj Ma Na Np Nr Ns Nt Rc Rn Rr Va Vc Vd Wa Ls Pr8 Ja Jd
open Go1 (hcode)
open Nh (intE)
open Dc (aAe)
open Yg (aAr)
structure FileR (w:World)(gf gv:Nat)(h:HD)(d:Int)(A:Option Addr)(E c:Nat)(l:List Int)(P:Option Addr)(n cp:Nat)(out:List Int)(cd:Int):Prop where
 blk:Blk w gf [.pointer (some ⟨gv,0,none⟩),.slice P n cp,.int .i64 cd] 224
 view:ViewR w gv h d A E c l
 ints:InInts .u64 w P n (fun i=>out.getD i 0)
 len:out.length=n
 nn: ∀y∈out,0≤y∧y≤18446744073709551615
 nb:n≤800000
theorem FileR.below {w w':World}{gf g:Nat}{h:HD}{d:Int}{A:Option Addr}{E c:Nat}{l:List Int}{P:Option Addr}{n cp:Nat}{out:List Int}{cd:Int}(f:FileR w gf g h d A E c l P n cp out cd)(b:Below w.heap.size w w'):FileR w' gf g h d A E c l P n cp out cd:=
 ⟨f.blk.below b f.blk.lt,f.view.below b,f.ints.below b,f.len,f.nn,f.nb⟩
def ROpened (l:List Int)(E:Nat)(w:World)(e:Ending)(w':World):Prop:= ∃(gf gv:Nat) (A2:Option Addr) (c2:Nat) (P:Option Addr) (k cp:Nat),e= .returned (.tuple #[.pointer (some ⟨gf,0,none⟩),.int .i64 0])∧FileR w' gf gv (hdOf l) (Ob.u8 l 248) A2 E c2 (l.take E) P k cp (chase (hdOf l) (l.take E) E ((hdOf l).N 8) 14 2 (E+1) [] ((hdOf l).N 11).toNat 0).1 (chase (hdOf l) (l.take E) E ((hdOf l).N 8) 14 2 (E+1) [] ((hdOf l).N 11).toNat 0).2∧Below w.heap.size w w'
theorem prs_off {w:World}{F:Option Addr}{f:List PR}{g:Nat}{T:TypeId}(j:Prs w F f)(k:w.heap[g]? =some (.cells zR T (0,0))): ∀b off,F=some ⟨b,off,none⟩→0<f.length→b≠g:=fun b off e hl hbg=>by
 obtain⟨b2,i,c,_,l,_⟩:=j.2 0 hl
 rw[e]at c
 injection c with c
 injection c with c e3
 subst c e3 hbg
 have d:w.cell? ⟨b,off+0*2,none⟩=(zR:Array Value)[off+0*2]? :=by simp[World.cell?,k]
 rw[l]at d
 generalize off+0*2=q at d
 have m:q<20:=by
  rcases Nat.lt_or_ge q 20 with h|h
  ·exact h
  ·rw[Array.getElem?_eq_none (by show 20≤q;exact h)]at d;cases d
 rcases q with _|_|_|_|_|_|_|_|_|_|_|_|_|_|_|_|_|_|_|_|q
 all_goals first|(simp at d;done)|omega
attribute [local irreducible] HD.cells wpList Code.wp
theorem aGO (l:List Int)(A:Option Addr)(n c:Nat)(w:World)(z:Bytes w A l)(Z:l.length=n)(X:n≤800000)(Y:n≤c)(G:hcode l n=0)(E:Nat)(B:endV (hdOf l)=(E:Int))(f:endB (hdOf l)=true)(u:E≤n)(j:(hdOf l).Ok 21):
 Calls Tryz.prog 67 #[.slice A n c] w (ROpened l E w):=by
 have g:=yH (aJM l A n c w z Z X Y G E B f u j)
 unfold OpenedR at g
 have o:=z.1
 have F:=yH (aEs (h:=hdOf l) (o.take E) (E:=E) (n:=(hdOf l).N 8) (na:=14) (ni:=2) (E+1) [] ((hdOf l).N 11).toNat 0 (aLG E))
 unfold ROpened
 have M:E≤800000:=by omega
 clear z G B f j
 generalize hdOf l=H at*
 generalize Ob.u8 l 248=dp at*
 generalize l.take E=D at*
 have i:=yH fun(W:World) (b:Nat) (r:Option Addr) (s:Nat) (v:ViewR W b H dp r E s D)=>Wb.aGH W v
 unfold TellL at i
 generalize chase H D E (H.N 8) 14 2 (E+1) [] (H.N 11).toNat 0=R at*
 obtain⟨out,cd⟩:=R
 dsimp only at*
 go_enter Tryz.func67,Tryz.ntmps67
 go_upto_region 5 with(first
  |(go_at_call 40;((refine g.out.mono ?_);rintro e w1 ⟨b,r,s,rfl,_,C,m⟩;have J:=yH C;have t:=yH m;clear C m))
  |(go_at_call 105;((refine(i.out _ b r s J.out).mono ?_);rintro e w3 ⟨p,P,k,cp,rfl,d,q⟩;have x:=yH p;have O3:=yH d;have I:=yH q;clear p d q))
  |fail)
 have R4:=yH (Blk.new w3 [.pointer (some ⟨b,0,none⟩),.slice P k cp,.int .i64 cd] 224)
 have y:=yH ((Below.refl w3.heap.size w3).alloc (yR _) (.cells #[.pointer (some ⟨b,0,none⟩),.slice P k cp,.int .i64 cd] 224))
 have I4:=yH ((aGM O3.out I.out F.out.2).below y.out)
 have V4:=yH ((J.out.below x.out).below y.out)
 have V:=yH ((t.out.trans (x.out.mono t.out.size)).trans (y.out.mono (Nat.le_trans t.out.size x.out.size)))
 have L5:=I.out
 have L:=F.out
 go_wp2_with fail
 go_ret2
 refine⟨_,b,r,s,P,k,cp,rfl,⟨R4.out,V4.out,I4.out,L5,L.2,?_⟩,V.out⟩
 have h6:=L.1
 unfold Up at h6
 omega
theorem aLJ {w:World}{gf z:Nat}{h:HD}{d:Int}{A:Option Addr}{E c:Nat}{l:List Int}{P:Option Addr}{n cp:Nat}{out:List Int}{cd:Int}(f:FileR w gf z h d A E c l P n cp out cd)(x:Nat)(hx:x<n):Calls Tryz.prog 122 #[.pointer (some ⟨gf,0,none⟩),.int .i64 (x:Int)] w (TellR (recP h l E (out.getD x 0).toNat) (rcode h l E (out.getD x 0).toNat) w):=by
 have u:=yH ((Below.refl w.heap.size w).alloc (yR _) (.cells zR 70))
 have k0:(w.alloc (.cells zR 70)).cell? ⟨gf,0,none⟩=some (.pointer (some ⟨z,0,none⟩)):=(u.out.cell (p:=⟨gf,0,none⟩) f.blk.lt).trans (f.blk.cell (i:=0) rfl)
 have k1:(w.alloc (.cells zR 70)).cell? ⟨gf,1,none⟩=some (.slice P n cp):=(u.out.cell (p:=⟨gf,1,none⟩) f.blk.lt).trans (f.blk.cell (i:=1) rfl)
 have Z1:=yH (heap_alloc_new w (.cells zR 70))
 have ae:(w.alloc (.cells zR 70)).heap.size=w.heap.size+1:=by simp
 have d1:decide ((x:Int)<0)=false:=by simp
 have d2:decide ((n:Int)≤(x:Int))=false:=by simp;omega
 have ac:(x:Int)<(n:Int):=by omega
 obtain⟨a,ha⟩: ∃a:Nat,out.getD x 0=(a:Int):=by
  have t:x<out.length:=by rw[f.len];exact hx
  have e:out.getD x 0=out[x]:=by simp[List.getElem?_eq_getElem t]
  have:=f.nn _ (List.getElem_mem t)
  exact⟨out[x].toNat,by rw[e];omega⟩
 have J:AllB l:=f.view.by_.1
 have q:=aLp h E (out.getD x 0).toNat J
 rw[ha]at q⊢
 rw[Int.toNat_natCast]at q⊢
 have HR:=yH fun(W:World) (hW:Below w.heap.size w W)=>aNA a W (f.view.below hW)
 have Z:P.isSome∨True:= .inr trivial
 obtain⟨m,r,rfl,D,o,_⟩:=f.ints x hx
 dsimp only at o
 rw[ha]at o
 have kP:(w.alloc (.cells zR 70)).cell? ⟨m,r+x,none⟩=some (.int .u64 (a:Int)):=(u.out.cell (p:=⟨m,r+x,none⟩) D).trans o
 have ad:=f.blk.lt
 unfold TellR at HR⊢
 have ab:=yH q
 clear f q o Z
 generalize recP h l E a=R at*
 generalize rcode h l E a=G at*
 obtain⟨rs,V,X,L,M,N⟩:=R
 dsimp only at*
 go_enter Tryz.func122,Tryz.ntmps122
 go_upto_region 3 with fail
 generalize aa:w.alloc (.cells zR 70)=s at*
 have H:=yH fun(W:World) (hW:Below s.heap.size s W)=>show W.cell? ⟨gf,0,none⟩=some (.pointer (some ⟨z,0,none⟩))∧W.cell? ⟨gf,1,none⟩=some (.slice (some ⟨m,r,none⟩) n cp)∧W.cell? ⟨m,r+x,none⟩=some (.int .u64 (a:Int))from
  ⟨(hW.cell (p:=⟨gf,0,none⟩) (by show gf<_;omega)).trans k0,(hW.cell (p:=⟨gf,1,none⟩) (by show gf<_;omega)).trans k1,(hW.cell (p:=⟨m,r+x,none⟩) (by show m<_;omega)).trans kP⟩
 have C:=yH (show Below s.heap.size s s.drew from(Below.refl s.heap.size s).drew)
 refine wp_region_noPanic ?_
 refine wp_region_held_drew (S:=fun W:World=>W.cell? ⟨gf,0,none⟩=some (.pointer (some ⟨z,0,none⟩))∧W.cell? ⟨gf,1,none⟩=some (.slice (some ⟨m,r,none⟩) n cp)∧W.cell? ⟨m,r+x,none⟩=some (.int .u64 (a:Int))) (by kernel_rfl) (by exact H.out _ C.out) (fun hHeld=>?_)
 refine tq 0 18 rfl (fun W hSw=>by obtain⟨j,k,g⟩:=hSw;go_simp;try (with_reducible rfl)) ?_
 try simp only[Act.put,sA,sZ,sS]
 refine tq 1 19 rfl (fun W hSw=>by obtain⟨j,k,g⟩:=hSw;go_simp;try (with_reducible rfl)) ?_
 try simp only[Act.put,sA,sZ,sS]
 refine tq 2 20 rfl (fun W hSw=>by obtain⟨j,k,g⟩:=hSw;go_simp;try (with_reducible rfl)) ?_
 try simp only[Act.put,sA,sZ,sS]
 refine tq 3 21 rfl (fun W hSw=>by obtain⟨j,k,g⟩:=hSw;go_simp;try (with_reducible rfl)) ?_
 try simp only[Act.put,sA,sZ,sS]
 refine tq 4 22 rfl (fun W hSw=>by obtain⟨j,k,g⟩:=hSw;go_simp;try (with_reducible rfl)) ?_
 try simp only[Act.put,sA,sZ,sS]
 refine tq 5 23 rfl (fun W hSw=>by obtain⟨j,k,g⟩:=hSw;go_simp;try (with_reducible rfl)) ?_
 try simp only[Act.put,sA,sZ,sS]
 refine tq 6 24 rfl (fun W hSw=>by obtain⟨j,k,g⟩:=hSw;go_simp;try (with_reducible rfl)) ?_
 try simp only[Act.put,sA,sZ,sS]
 refine tq 7 25 rfl (fun W hSw=>by obtain⟨j,k,g⟩:=hSw;go_simp;try (with_reducible rfl)) ?_
 try simp only[Act.put,sA,sZ,sS]
 refine tq 8 26 rfl (fun W hSw=>by obtain⟨j,k,g⟩:=hSw;go_simp;try (with_reducible rfl)) ?_
 try simp only[Act.put,sA,sZ,sS]
 refine tq 9 27 rfl (fun W hSw=>by obtain⟨j,k,g⟩:=hSw;go_simp;try (with_reducible rfl)) ?_
 try simp only[Act.put,sA,sZ,sS]
 refine tq 10 28 rfl (fun W hSw=>by obtain⟨j,k,g⟩:=hSw;go_simp;try (with_reducible rfl)) ?_
 try simp only[Act.put,sA,sZ,sS]
 refine rd 11 rfl (fun KK hKK=>?_)
 go_simp
 ((refine(HR.out _ (u.out.trans (C.out.mono (by omega)))).mono ?_);rintro e w2 ⟨F,B,rfl,hp,y⟩;have HP:=yH hp;have b2:=yH (C.out.trans (y.mono C.out.size));have I:=yH ((b2.out.block w.heap.size (by omega)).trans Z1.out);clear hp y)
 try go_wp2_with fail
 refine hKK.out _ _ (by exact(H.out _ b2.out)) (fun hHeld=>?_)
 clear hKK KK
 try simp only[Act.put,sA,sZ,sS]
 refine tq 12 30 rfl (fun W hSw=>by obtain⟨j,k,g⟩:=hSw;go_simp;try (with_reducible rfl)) ?_
 try simp only[Act.put,sA,sZ,sS]
 refine tq 13 31 rfl (fun W hSw=>by obtain⟨j,k,g⟩:=hSw;go_simp;try (with_reducible rfl)) ?_
 try simp only[Act.put,sA,sZ,sS]
 refine rd 14 rfl (fun KK hKK=>?_)
 split
 ·refine wp_store_row 70 (.tmp 4) (.tmp 30) rfl w.heap.size (recL rs V X L (.slice F M B)).toArray rfl rfl 70 zR I.out (aAm _ _ _ _ _) rfl (by simp[Value.oneCell']) ?_
  have bF:=yH (below_setRow (u.out.trans (b2.out.mono (by omega))) (yR w.heap.size) (recL rs V X L (.slice F M B)).toArray)
  refine hKK.out _ _ (by
   obtain⟨q1,q2,q3⟩:=H.out _ b2.out
   exact⟨(World.cell?_of_block (a:=⟨gf,0,none⟩) (setRow_other _ _ _ _ (show gf≠w.heap.size by omega))).trans q1,(World.cell?_of_block (a:=⟨gf,1,none⟩) (setRow_other _ _ _ _ (show gf≠w.heap.size by omega))).trans q2,(World.cell?_of_block (a:=⟨m,r+x,none⟩) (setRow_other _ _ _ _ (show m≠w.heap.size by omega))).trans q3⟩) (fun hHeld=>?_)
  clear hKK KK
  try simp only[Act.put,sA,sZ,sS]
  refine tq 15 5 rfl (fun W hSw=>by obtain⟨j,k,g⟩:=hSw;go_simp;try (with_reducible rfl)) ?_
  try simp only[Act.put,sA,sZ,sS]
  refine wpAnyH_done (by kernel_rfl) ?_ _
  refine NoPanic.normal ?_
  go_wp2_with fail
  refine bodyPost_ret (v:= .tuple #[.agg (recL rs V X L (.slice F M B)).toArray,.int .i64 G]) (by exact aAr Tryz.results122 _ _ w.heap.size 70 _ (0,0) _ _ rfl rfl (setRow_heap _ _ _ _ _ (0,0) I.out) Tryz.underlying70 rfl (aAm _ _ _ _ _)) rfl ?_
  refine⟨F,⟨B,rfl⟩,?_,bF.out⟩
  rcases Nat.eq_zero_or_pos N.length with Y|Y
  ·rw[List.eq_nil_of_length_eq_zero Y]
   exact Prs.nil _ _
  ·exact HP.out.keptB (by rw[setRow_size];exact yR _) fun b off e hb=>setRow_other _ _ _ _ (prs_off HP.out I.out b off e Y)
 ·next hno=>exact absurd (by rfl) hno
theorem aLK {w:World}{gf gv:Nat}{h:HD}{d:Int}{A:Option Addr}{E c:Nat}{l:List Int}{P:Option Addr}{n cp:Nat}{out:List Int}{cd:Int}(f:FileR w gf gv h d A E c l P n cp out cd):
 Calls Tryz.prog 121 #[.pointer (some ⟨gf,0,none⟩)] w fun e w'=> ∃z m y,e= .returned (.slice z m y)∧OwnE 3 1 w' w.heap.size z m y (ints (goodL h l E out n))∧(goodL h l E out n).length=m∧Below w.heap.size w w':=by
 have k1:=f.blk.cell (i:=1) rfl
 have ae:=yH f.blk.lt
 have ak:=f.nb
 have HR:=yH fun(x:Nat) (hx:x<n) (W:World) (hW:Below w.heap.size w W)=>aLJ (f.below hW) x hx
 have J:=fun k=>aAR (jC h l E out) (fun x=>(jR h l E out x).s) k
 unfold goodL
 have hC: ∀x,jC h l E out x=rcode h l E (out.getD x 0).toNat:=fun _=>rfl
 have hR: ∀x,jR h l E out x=recP h l E (out.getD x 0).toNat:=fun _=>rfl
 simp only[←hC,←hR]at HR
 clear f hC hR
 generalize hS:(fun x=>(jR h l E out x).s)=S at*
 generalize jR h l E out=R at*
 generalize jC h l E out=C at*
 unfold TellR at HR
 have aa:=yH J
 clear J
 go_enter Tryz.func121,Tryz.ntmps121
 go_wp2_with fail
 go_loopw [3,4,5] (fun s g i wr=> ∃(k m:Nat) (z:Option Addr) (y:Nat),k≤n∧s= .slice z m y∧g= .int .u64 (goodR C S k).2∧i= .int .i64 (k:Int)∧Hid (OwnE 3 1 wr w.heap.size z m y (ints (goodR C S k).1))∧Hid ((goodR C S k).1.length=m)∧Hid (Below w.heap.size w wr)) (fun _ _ i _=>n-Rn.natOf i)
 case atStart=>exact⟨0,0,none,0,Nat.zero_le _,rfl,rfl,rfl,yH (OwnE.nil w w.heap.size (yR _)),yH rfl,yH (Below.refl _ _)⟩
 case round=>
  obtain⟨k,m,z,y,hk,rfl,rfl,rfl,hO,hL,hB⟩:=hrel
  have ah:wr.cell? ⟨gf,1,none⟩=some (.slice P n cp):=(hB.out.cell (p:=⟨gf,1,none⟩) ae.out).trans k1
  by_cases D:k<n
  ·have ad:decide ((k:Int)<(n:Int))=true:=by simp;omega
   have al:IntKind.i64.wrap ((k:Int)+1)=((k+1:Nat):Int):=by rw[IntKind.wrap_i64];omega
   have H:=yH (HR.out k D wr hB.out)
   have hm:=(aa.out k).2.1
   have B:=hL.out
   have j:=yH (aCo (C:=C) (S:=S) (k:=k))
   have b:=yH (aDA (C:=C) (S:=S) (k:=k))
   have ac:S k=(R k).s:=by rw[←hS]
   rw[ac]at j b
   clear HR aa ac
   generalize goodR C S k=q at*
   obtain⟨L,gr⟩:=q
   dsimp only at hO hL hm B j b
   generalize C k=ck at*
   generalize R k=r at*
   obtain⟨rs,rr,rm,N,V,ai⟩:=r
   dsimp only at H j b
   clear hS
   go_upto_region 7 with(first
    |(go_at_call 122;(refine H.out.mono ?_);rintro e w2 ⟨F,Z,rfl,_,I⟩;have B2:=yH (hB.out.trans (I.mono hB.out.size));have O2:=yH (hO.out.kept I (yR _));clear I)
    |((with_reducible apply aAa (.tmp 6) (.tmp 21));refine wpList_store_row rfl 70 (.tmp 6) (.tmp 21) rfl w2.heap.size (recL rs rr rm N (.slice F V Z)).toArray rfl rfl 70 zR (heap_alloc_new w2 _) (aAm _ _ _ _ _) rfl (by simp[Value.oneCell']) ?_)
    |fail)
   have R3:=yH (show Blk ((w2.alloc (.cells zR 70)).setRow w2.heap.size (recL rs rr rm N (.slice F V Z)).toArray) w2.heap.size (recL rs rr rm N (.slice F V Z)) 70 from setRow_heap _ _ _ _ _ (0,0) (heap_alloc_new w2 _))
   have b3:=yH (show Below w2.heap.size w2 ((w2.alloc (.cells zR 70)).setRow w2.heap.size (recL rs rr rm N (.slice F V Z)).toArray)from below_setRow ((Below.refl _ _).alloc (yR _) _) (yR _) _)
   have O3:=yH (O2.out.kept b3.out (yR _))
   have af:=yH (fun k hk=>(show k<w2.heap.size from(Dc.OwnE.ltB O2.out k hk).2))
   have B3:=yH (B2.out.trans (b3.out.mono B2.out.size))
   clear b3 H hO
   generalize (w2.alloc (.cells zR 70)).setRow w2.heap.size (recL rs rr rm N (.slice F V Z)).toArray=w3 at*
   have aj:=B2.out.size
   clear O2 B2
   generalize w2.heap.size=g2 at*
   have k0:w3.cell? ⟨g2,0,none⟩=some (.int .u64 rs):=R3.out.cell (i:=0) rfl
   by_cases t:ck=0
   ·subst t
    by_cases hg:gr<rs
    ·have G:=j.out ⟨rfl,hg⟩
     have o:=yH G
     have d1:decide (gr<rs)=true:=by simp;omega
     have Y:=yH (R3.out.alloc (.cells #[.int .i64 (k:Int)] 3))
     clear j b hg G
     go_upto_region 9 with(first
      |(at_builtin;refine aAe intE rfl (.tmp 31) (.tmp 33) rfl w.heap.size z m y (ints L) rfl (OwnE.alloc O3.out _) ⟨w3.heap.size,0,none⟩ 1 1 [.int .i64 (k:Int)] rfl rfl (Blk.news (Blk.new w3 [.int .i64 (k:Int)] 3)) (by intro u hu;simp at hu;subst hu;rfl) (by omega) (by omega) (by unfold maxLen;omega) ?_;intro A6 c6 w6 X M ab;have O6:=yH X;have G6:=yH M;clear X M ab)
      |fail)
     have B6:=yH ((B3.out.alloc B3.out.size (.cells #[.int .i64 (k:Int)] 3)).trans (Own8.below_grown G6.out (by have:=B3.out.size;simp;omega) (fun k hk=>(Dc.OwnE.ltB O3.out k hk).1)))
     have k6:w6.cell? ⟨g2,0,none⟩=some (.int .u64 rs):=(World.cell?_of_block (a:=⟨g2,0,none⟩) (G6.out.block g2 Y.out.lt (fun e=>by have h2:=af.out g2 e.symm;omega))).trans (Y.out.cell (i:=0) rfl)
     go_wp2_with fail
     go_roundw
     case rel=>exact⟨k+1,m+1,A6,c6,D,rfl,by rw[o.out],rfl,yH (by rw[o.out,aGN];exact O6.out),yH (by rw[o.out,List.length_append,List.length_singleton,B]),B6⟩
     case measure=>simp[Rn.natOf];omega
    ·have G:=b.out (fun h=>hg h.2)
     have o:=yH G
     have d1:decide (gr<rs)=false:=by simp;omega
     clear j b hg G
     go_wp2_with fail
     go_roundw
     case rel=>exact⟨k+1,m,z,y,D,rfl,by rw[o.out],rfl,yH (by rw[o.out];exact O3.out),yH (by rw[o.out];exact B),B3⟩
     case measure=>simp[Rn.natOf];omega
   ·have G:=b.out (fun h=>t h.1)
    have o:=yH G
    have d0:decide (ck=0)=false:=by simpa using t
    have d1:(ck==0)=false:=by simpa using t
    clear j b t G
    go_wp2_with fail
    go_roundw
    case rel=>exact⟨k+1,m,z,y,D,rfl,by rw[o.out],rfl,yH (by rw[o.out];exact O3.out),yH (by rw[o.out];exact B),B3⟩
    case measure=>simp[Rn.natOf];omega
  ·have ad:decide ((k:Int)<(n:Int))=false:=by simp;omega
   have ag:k=n:=by omega
   subst ag
   go_wp2_with fail
   go_ret
   exact⟨z,m,y,rfl,hO.out,hL.out,hB.out⟩
end Jj
namespace Zk
open Bytes8 Blk8 Ya Ob Ga Ma Mb Mg Na Nc Nh Nl Np Nq Ns Nt Nu Fa Yd Yc Yp Yg Yj Za Zb Zc Zd Ze Zg Zh Zj Pr8 Ps8 Pl8 Rj Rk Rm Rn Rr Va
open Rd (dcode dz)
open Ri (ecode9)
abbrev W64 (x:Int):Prop:=0≤x∧x≤18446744073709551615
theorem aGP (s r m:Int)(K:Nat→Int)(x:Int)(b:List Int):entB s r m K x b=nums [s,r,m]++(idL K++(nums [x]++nums b)):=by unfold entB;simp
theorem aNH (s r m:Int)(K:Nat→Int)(x:Int)(b:List Int)(hs:W64 s)(d:W64 r)(f:W64 m)(c:W64 x):
 u8 (entB s r m K x b) 0=s∧u8 (entB s r m K x b) 8=r∧u8 (entB s r m K x b) 16=m∧u8 (entB s r m K x b) 40=x:=by
 rw[aGP]
 refine⟨nums_at [s,r,m] _ 0 0 rfl (by simp) hs,nums_at [s,r,m] _ 1 8 rfl (by simp) d,nums_at [s,r,m] _ 2 16 rfl (by simp) f,?_⟩
 have h:=aDo (nums [s,r,m]++idL K) (nums [x]++nums b) 40 0 (by rw[List.length_append,nums_len];rfl)
 rw[List.append_assoc]at h
 rw[h]
 exact nums_at [x] _ 0 0 rfl (by simp) c
theorem aQv (s r m:Int)(K:Nat→Int)(x:Int)(c:List Int)(i:Nat)(b:i<16):itK (entB s r m K x c) i=K i:=by
 unfold itK
 rw[if_pos b,aGP,List.getD_eq_getElem?_getD,List.getElem?_append_right (by rw[nums_len];simp),nums_len]
 rw[show 24+i-8* [s,r,m].length=i by simp,List.getElem?_append_left (by simpa [idL]using b)]
 unfold idL
 rcases i with _|_|_|_|_|_|_|_|_|_|_|_|_|_|_|_|i
 all_goals first|rfl|omega
theorem aLL (s r m:Int)(K:Nat→Int)(x:Int)(f g:Nat→Int)(n i:Nat)(d:i<n)(j:Wd f n)(c:Wd g n):
 itA (entB s r m K x (prs f g n)) i=f i∧itH (entB s r m K x (prs f g n)) i=g i:=by
 unfold itA itH entB
 have b:(nums [s,r,m]++idL K++nums [x]).length=48:=by rw[List.length_append,List.length_append,nums_len,nums_len];rfl
 have h:=aMB f g n i d j c []
 rw[List.append_nil]at h
 rw[aDo _ _ 48 _ b,Nat.add_assoc,aDo _ _ 48 _ b]
 exact h
theorem aPh {l m:List (List Int)}(h:l.Perm m):xr l=xr m:=by
 induction h with
 |nil=>rfl
 |cons x _ ih=>rw[aBt,aBt,ih]
 |swap x y l=>rw[aBt,aBt,aBt,aBt,Nat.xor_assoc,Nat.xor_assoc,Nat.xor_comm (lookN x)]
 |trans _ _ h1 h2=>exact h1.trans h2
theorem aLM {f:Nat→Int}: ∀ {n:Nat},(∀i,i+1<n→f i<f (i+1))→risB f n=true
 |0,_=>rfl
 |1,_=>rfl
 |n+2,h=>by
  unfold risB
  rw[aLM (n:=n+1) (fun i hi=>h i (by omega))]
  simpa using h n (by omega)
theorem aLN {who:List Nat}{T:Nat→List Int}{P:Nat→List Int}(h: ∀i (hi:i<who.length),P i=T who[i]):rowsL P who.length=who.map T:=by
 unfold rowsL
 refine List.ext_getElem (by simp) fun i h1 h2=>?_
 rw[List.getElem_map,List.getElem_map,List.getElem_range]
 exact h i (by simpa using h2)
theorem aP8 (H:HD)(C:Cf)(c:H.ic=if C.keyed then 4 else 0)(b: ∀i,i<16→H.I i=C.F i):keyB H.ic=C.keyed∧idL H.I=Cf.file C:=by
 refine⟨?_,?_⟩
 ·rw[c]
  cases C.keyed
  ·rfl
  ·rfl
 ·unfold idL Cf.file idL
  rw[b 0 (by decide),b 1 (by decide),b 2 (by decide),b 3 (by decide),b 4 (by decide),b 5 (by decide),b 6 (by decide),b 7 (by decide),b 8 (by decide),b 9 (by decide),b 10 (by decide),b 11 (by decide),b 12 (by decide),b 13 (by decide),b 14 (by decide),b 15 (by decide)]
theorem aLO {m:Mk}{n:List O}{hs:Nat→List Nat}{X:List Nat}{V:List (Nat×List Int)}(u:Hold m n hs X V){H:HD}{l s:List Int}(B:l=s++enc n)(A:s.length=272)(Z:H.N 0=272)(r:H.ic=if m.C.keyed then 4 else 0)(R: ∀i,i<16→H.I i=m.C.F i){x:Nat}(y:x<m.datas.length)(j:(Mk.kn m x).text≠ []):
 hcode9 H l l.length (Mk.kn m x).at_=0∧bnum l (Mk.kn m x).at_ 1 6 0=Mk.sum m (Mk.kn m x).text∧bpay l (Mk.kn m x).at_ 1 6=(Mk.kn m x).text∧(Mk.kn m x).at_<l.length:=by
 have D:=u.dat x y
 rw[kn_at y]at j⊢
 generalize m.datas[x]=d at*
 obtain⟨o,q,k⟩:=aBm D.sh
 have z:=u.rep.ok o (aCn _ _ _ _ q)
 injection k with h1 h2 h3 h4
 obtain⟨c1,c2,c3,p⟩:=aH2 B A q z
 have E:=List.length_pos_iff.2 j
 have G:o.body.length=48+d.text.length:=by rw[O.body_len,h2,h3]
 have f:bcode l d.at_ 1 6=0:=by
  unfold bcode
  rw[if_neg (by omega),c2,h1,if_neg (by decide),p,if_neg (by omega)]
 have M:l.length=endO n:=by rw[B,List.length_append,A];rfl
 have g:=aBn D.sh
 dsimp only at g
 have t:272≤d.at_:=g.1
 have c:bnum l d.at_ 1 6 0=Mk.sum m d.text:=by
  unfold bnum
  rw[if_pos f,p,show 8*0=0 from rfl,aHT z 0 0 (by omega) rfl,←D.w0]
  unfold wd
  rw[q]
 have b:bpay l d.at_ 1 6=d.text:=by
  unfold bpay
  rw[if_pos f,p]
  unfold O.body
  rw[List.drop_left' (by rw[nums_len,h2]),h3]
 have L:dcode H l l.length d.at_=0:=by
  unfold dcode
  rw[if_pos ⟨by rw[Z];omega,by omega⟩,f]
 obtain⟨J,Y⟩:=aP8 H m.C r R
 refine⟨?_,c,b,by omega⟩
 unfold hcode9
 rw[if_neg (by omega),c,b,J,Y]
 exact if_pos rfl
theorem aNI {m:Mk}{rs:List RR}{os:List O}{hs:Nat→List Nat}{z:List Nat}{G:List (Nat×List Int)}(k:Kept m rs.length os hs z G)(q:Recs m rs G){H:HD}{l hd:List Int}(hl:l=hd++enc os)(hh:hd.length=272)(h0:H.N 0=272)(an:H.ic=m.h.ic)(hI: ∀i,i<16→H.I i=m.h.I i)(i:Nat)(M:i<rs.length):
 rcode H l l.length (z.getD i 0)=0∧(recP H l l.length (z.getD i 0)).s=m.h.N 9-rs.length+i+1∧(recP H l l.length (z.getD i 0)).r=rs[i].2.1∧(recP H l l.length (z.getD i 0)).m=rs[i].2.2.1∧(∀j,j<16→(recP H l l.length (z.getD i 0)).K j=rs[i].2.2.2 j)∧(∀x,x∈(recP H l l.length (z.getD i 0)).pl↔x∈listL rs[i].1):=by
 have u:i<G.length:=by have:=q.len;omega
 have af:z.getD i 0=G[i].1:=by
  rw[←k.ent,List.getD_eq_getElem?_getD,List.getElem?_eq_getElem (by rw[List.length_map];exact u),List.getElem_map];rfl
 have ak:=k.bd G[i].1 (by rw[←k.ent];exact List.mem_map.2 ⟨_,List.getElem_mem u,rfl⟩)
 rw[af]
 have hE:=k.hold.ent i u
 obtain⟨who,w1,w2,w3,w4⟩:=q.ent i M u
 have hr:=q.ok rs[i] (List.getElem_mem M)
 have aw:=q.base
 have au:=q.top
 have ac:H.ic=if m.C.keyed then 4 else 0:=an.trans q.ic
 have ag: ∀i,i<16→H.I i=m.C.F i:=fun i M=>(hI i M).trans (q.I i M)
 generalize rs[i]=r at*
 obtain⟨L,real,mono,K⟩:=r
 obtain⟨r1,r2,r3,r4,r5⟩:=hr
 dsimp only at r1 r2 r3 r4 r5 w3 w4⊢
 have aj:W64 (m.h.N 9-(rs.length:Int)+(i:Int)+1):=⟨by omega,by omega⟩
 have aa:m.h.N 9-(rs.length:Int)+(i:Int)+1≠0:=by omega
 generalize m.h.N 9-(rs.length:Int)+(i:Int)+1=sq at*
 generalize G[i]=e at*
 obtain⟨a,body⟩:=e
 dsimp only at hE ak w4⊢
 obtain⟨n16,E⟩:=aHE r1
 have X:listL L≠ []:=by
  unfold listL
  rw[if_pos r1]
  have hL:L≠ []:=fun h=>by unfold listE at r1;rw[if_pos h]at r1;cases r1
  obtain⟨y,hy⟩:=List.exists_mem_of_ne_nil _ hL
  exact List.ne_nil_of_mem ((aBb _ y).2 ((aC0 L y).2 hy))
 have ai:who.length=(listL L).length:=by have:=w3.length_eq;rwa[List.length_map,List.length_map]at this
 have aq:0<who.length:=by rw[ai];exact List.length_pos_iff.2 X
 have g: ∀x∈who,∃p∈listL L,(Mk.kn m x).text=pay p.1 p.2∧flawI p.1 p.2=0:=fun x c=>by
  obtain⟨p,hp,e⟩:=List.mem_map.1 (w3.mem_iff.1 (List.mem_map.2 ⟨x,c,rfl⟩))
  exact⟨p,hp,e.symm,(E p hp).2⟩
 have ae: ∀x∈who,(Mk.kn m x).text≠ []:=fun x c=>by
  obtain⟨p,_,e,_⟩:=g x c
  rw[e];unfold pay;simp
 have B: ∀x∈who,_:=fun x c=>aLO k.hold hl hh h0 ac ag (w1 x c) (ae x c)
 have av:l.length=endO os:=by rw[hl,List.length_append,hh];rfl
 have ar:=k.hold.rep.size
 have ao:=k.good.img.len
 have hf:Wd (fun i=>((Mk.kn m (who.getD i 0)).at_:Int)) who.length:=fun j hj=>by
  have:=(B _ (List.getElem_mem hj)).2.2.2
  rw[←getD_lt hj]at this
  dsimp only
  omega
 have hg:Wd (fun i=>Mk.sum m (Mk.kn m (who.getD i 0)).text) who.length:=fun j hj=>by
  have D:=k.hold.dat _ (w1 _ (List.getElem_mem hj))
  have h2:=aPY k.hold.rep (a:=(m.datas[who[j]]'(w1 _ (List.getElem_mem hj))).at_) (j:=0)
  rw[D.w0]at h2
  dsimp only
  rw[getD_lt hj,kn_at (w1 _ (List.getElem_mem hj))]
  exact h2
 have hX:W64 ((xr ((listL L).map fun q=>pay q.1 q.2):Nat):Int):=by
  have:=aPi ((listL L).map fun q=>pay q.1 q.2)
  exact⟨by omega,by omega⟩
 obtain⟨o,ho,al⟩:=aBm hE
 have ok:=k.hold.rep.ok o (aCn _ _ _ _ ho)
 injection al with h1 h2 h3 h4
 obtain⟨c1,c2,c3,n⟩:=aH2 hl hh ho ok
 have am:o.body=body:=by
  unfold O.body
  rw[List.eq_nil_of_length_eq_zero h2,h3]
  rfl
 rw[am]at c3 n
 have ah:body.length=48+16*who.length:=by rw[w4,aDC]
 obtain⟨n0,n8,A,V⟩:=aNH sq real mono K _ (prs (fun i=>((Mk.kn m (who.getD i 0)).at_:Int)) (fun i=>Mk.sum m (Mk.kn m (who.getD i 0)).text) who.length) aj r3 r4 hX
 have d:=fun j hj=>aLL sq real mono K ((xr ((listL L).map fun q=>pay q.1 q.2):Nat):Int) (fun i=>((Mk.kn m (who.getD i 0)).at_:Int)) (fun i=>Mk.sum m (Mk.kn m (who.getD i 0)).text) who.length j hj hf hg
 have ab:=fun j hj=>aQv sq real mono K ((xr ((listL L).map fun q=>pay q.1 q.2):Nat):Int) (prs (fun i=>((Mk.kn m (who.getD i 0)).at_:Int)) (fun i=>Mk.sum m (Mk.kn m (who.getD i 0)).text) who.length) j hj
 rw[←w4]at n0 n8 A V d ab
 have hN:itN body=who.length:=by unfold itN;omega
 have Y:risB (itA body) who.length=true:=by
  rw[aLZ (fun j hj=>(d j hj).1)]
  refine aLM fun j hj=>?_
  have h5:=List.pairwise_iff_getElem.1 w2 j (j+1) (by omega) (by omega) (by omega)
  try dsimp only
  rw[getD_lt (by omega),getD_lt (by omega)]
  omega
 have ap:ecode l a 3 48 16=0:=by
  unfold ecode
  rw[if_neg (by omega),c2,h1,if_neg (by decide),n,ah,if_neg (by omega)]
 have f:entC0 l a=0:=by
  unfold entC0
  rw[if_neg (by omega),n,n0,if_neg aa,hN,Y]
  rfl
 obtain⟨t1,t2,t3⟩:=aFe f
 rw[n]at t2 t3
 have Z:ecode9 H l l.length a=0:=by
  unfold ecode9
  rw[if_pos ⟨by rw[h0];omega,by omega⟩,f]
 have hP: ∀j (hj:j<who.length),payP l (itA body) j=(Mk.kn m who[j]).text:=fun j hj=>by
  show bpay l (itA body j).toNat 1 6=_
  rw[(d j hj).1]
  try dsimp only
  rw[getD_lt hj,Int.toNat_natCast]
  exact(B _ (List.getElem_mem hj)).2.2.1
 have b:rowsL (payP l (itA body)) who.length=who.map fun x=>(Mk.kn m x).text:=aLN hP
 have R: ∀j,j<who.length→icode H l l.length (itA body) (itH body) j=0:=fun j hj=>by
  obtain⟨p1,p2,p3,p4⟩:=B _ (List.getElem_mem hj)
  have e1:itA body j=((Mk.kn m who[j]).at_:Int):=by rw[(d j hj).1];(try dsimp only);rw[getD_lt hj]
  have e2:itH body j=Mk.sum m (Mk.kn m who[j]).text:=by rw[(d j hj).2];(try dsimp only);rw[getD_lt hj]
  rw[aBG e1 p1 (p2.trans e2.symm),p3]
  obtain⟨p,_,e,fl⟩:=g _ (List.getElem_mem hj)
  rw[e]
  exact(aBa fl).1
 have J:rcode H l l.length a=0:=by
  unfold rcode
  rw[t3,hN,n]
  refine(aLo H l l.length _ who.length (itA body) (itH body) _).e Z (by omega) R ?_
  rw[t1,n,V,b,aPh w3]
 unfold recP
 rw[if_pos J]
 refine⟨J,?_,?_,?_,fun j hj=>?_,fun x=>?_⟩
 ·show eNum l a 0=sq;rw[t1,n,n0]
 ·show eNum l a 8=real;rw[t1,n,n8]
 ·show eNum l a 16=mono;rw[t1,n,A]
 ·show eK l a j=K j;rw[t2];exact ab j hj
 ·show x∈prsL (payP l (itA (bodyL l a))) (eN l a)↔_
  rw[t3,hN,n]
  have ad:prsL (payP l (itA body)) who.length=(who.map fun x=>(Mk.kn m x).text).map fun t=>(splitN t,splitV t):=by
   rw[←b]
   unfold prsL rowsL
   rw[List.map_map]
   rfl
  rw[ad]
  constructor
  ·intro c
   obtain⟨t,ht,e⟩:=List.mem_map.1 c
   obtain⟨p,hp,e2⟩:=List.mem_map.1 (w3.mem_iff.1 ht)
   obtain⟨_,s2,s3⟩:=aBa (E p hp).2
   rw[←e,←e2]
   try dsimp only
   rw[s2,s3]
   exact hp
  ·intro c
   obtain⟨_,s2,s3⟩:=aBa (E x c).2
   refine List.mem_map.2 ⟨pay x.1 x.2,w3.mem_iff.2 (List.mem_map.2 ⟨x,c,rfl⟩),?_⟩
   rw[s2,s3]
end Zk
end Go.Proofs.YtlelnfokffflnaaGreat
