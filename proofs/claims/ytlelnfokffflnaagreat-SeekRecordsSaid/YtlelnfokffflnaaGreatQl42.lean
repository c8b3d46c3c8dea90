/-
  Texts beneath the proof.
-/
import Derived.Test.YtlelnfokffflnaaGreatQl41
set_option linter.unusedVariables false
set_option linter.unusedSimpArgs false
set_option maxRecDepth 100000
set_option maxHeartbeats 8000000
open Go.ChangeShapes Go.WideShapes Go.ChangeAt Go.RowKit
namespace Go.Proofs.YtlelnfokffflnaaGreat
namespace Jj
open Bytes8 Blk8 Own8 OwnE Rows2 Ob Ga Gb Gf Gj Ma Na Np Nr Ns Nt Rc Rn Rr Va Vc Vd Wa Ls Pr8 Ja Jd
open Go1 (hcode)
open Nh (intE)
open Dc (aAe)
open Yg (aAr)
structure FileR (w:World)(gf gv:Nat)(h:HD)(d:Int)(A:Option Addr)(E c:Nat)(l:List Int)(P:Option Addr)(n cp:Nat)(out:List Int)(cd:Int):Prop where
 blk:Blk w gf [.pointer (some ⟨gv,0,none⟩),.slice P n cp,.int .i64 cd] 224
 view:ViewR w gv h d A E c l
 ints:InInts .u64 w P n (fun i=>out.getD i 0)
 len:out.length=n
 nn: ∀y∈out,0≤y∧y≤18446744073709551615
 nb:n≤800000
theorem FileR.below {w w':World}{gf b:Nat}{h:HD}{d:Int}{A:Option Addr}{E c:Nat}{l:List Int}{P:Option Addr}{n cp:Nat}{out:List Int}{cd:Int}(f:FileR w gf b h d A E c l P n cp out cd)(a:Below w.heap.size w w'):FileR w' gf b h d A E c l P n cp out cd:=
 ⟨f.blk.below a f.blk.lt,f.view.below a,f.ints.below a,f.len,f.nn,f.nb⟩
def ROpened (l:List Int)(E:Nat)(w:World)(e:Ending)(w':World):Prop:= ∃(gf gv:Nat) (A2:Option Addr) (c2:Nat) (P:Option Addr) (k cp:Nat),e= .returned (.tuple #[.pointer (some ⟨gf,0,none⟩),.int .i64 0])∧FileR w' gf gv (hdOf l) (Ob.u8 l 248) A2 E c2 (l.take E) P k cp (chase (hdOf l) (l.take E) E ((hdOf l).N 8) 14 2 (E+1) [] ((hdOf l).N 11).toNat 0).1 (chase (hdOf l) (l.take E) E ((hdOf l).N 8) 14 2 (E+1) [] ((hdOf l).N 11).toNat 0).2∧Below w.heap.size w w'
theorem prs_off {w:World}{F:Option Addr}{f:List PR}{g:Nat}{T:TypeId}(j:Prs w F f)(i:w.heap[g]? =some (.cells zR T (0,0))): ∀b off,F=some ⟨b,off,none⟩→0<f.length→b≠g:=fun b off e hl hbg=>by
 obtain⟨b2,d,a,_,k,_⟩:=j.2 0 hl
 rw[e]at a
 injection a with a
 injection a with a e3
 subst a e3 hbg
 have c:w.cell? ⟨b,off+0*2,none⟩=(zR:Array Value)[off+0*2]? :=by simp[World.cell?,i]
 rw[k]at c
 generalize off+0*2=q at c
 have l:q<20:=by
  rcases Nat.lt_or_ge q 20 with h|h
  ·exact h
  ·rw[Array.getElem?_eq_none (by show 20≤q;exact h)]at c;cases c
 rcases q with _|_|_|_|_|_|_|_|_|_|_|_|_|_|_|_|_|_|_|_|q
 all_goals first|(simp at c;done)|omega
attribute [local irreducible] HD.cells wpList Code.wp
theorem aGO (l:List Int)(A:Option Addr)(n c:Nat)(w:World)(t:Bytes w A l)(M:l.length=n)(Z:n≤800000)(V:n≤c)(F:hcode l n=0)(E:Nat)(J:endV (hdOf l)=(E:Int))(i:endB (hdOf l)=true)(x:E≤n)(o:(hdOf l).Ok 21):
 Calls Tryz.prog 67 #[.slice A n c] w (ROpened l E w):=by
 have d:=yH (aJM l A n c w t M Z V F E J i x o)
 unfold OpenedR at d
 have j:=t.1
 have D:=yH (aEs (h:=hdOf l) (j.take E) (E:=E) (n:=(hdOf l).N 8) (na:=14) (ni:=2) (E+1) [] ((hdOf l).N 11).toNat 0 (aLG E))
 unfold ROpened
 have aa:E≤800000:=by omega
 clear t F J i o
 generalize hdOf l=H at*
 generalize Ob.u8 l 248=Y at*
 generalize l.take E=B at*
 have f:=yH fun(W:World) (a:Nat) (q:Option Addr) (r:Nat) (v:ViewR W a H Y q E r B)=>Wb.aGH W v
 unfold TellL at f
 generalize chase H B E (H.N 8) 14 2 (E+1) [] (H.N 11).toNat 0=R at*
 obtain⟨out,cd⟩:=R
 dsimp only at*
 go_enter Tryz.func67,Tryz.ntmps67
 go_upto_region 5 with(first
  |(go_at_call 40;((refine d.out.mono ?_);rintro e w1 ⟨a,q,r,rfl,_,I,g⟩;have C:=yH I;have u:=yH g;clear I g))
  |(go_at_call 105;((refine(f.out _ a q r C.out).mono ?_);rintro e w3 ⟨p,P,k,cp,rfl,m,b⟩;have s:=yH p;have O3:=yH m;have z:=yH b;clear p m b))
  |fail)
 have R4:=yH (Blk.new w3 [.pointer (some ⟨a,0,none⟩),.slice P k cp,.int .i64 cd] 224)
 have y:=yH ((Below.refl w3.heap.size w3).alloc (yR _) (.cells #[.pointer (some ⟨a,0,none⟩),.slice P k cp,.int .i64 cd] 224))
 have I4:=yH ((aGM O3.out z.out D.out.2).below y.out)
 have V4:=yH ((C.out.below s.out).below y.out)
 have BB:=yH ((u.out.trans (s.out.mono u.out.size)).trans (y.out.mono (Nat.le_trans u.out.size s.out.size)))
 have L:=z.out
 have G:=D.out
 go_wp2_with fail
 go_ret2
 refine⟨_,a,q,r,P,k,cp,rfl,⟨R4.out,V4.out,I4.out,L,G.2,?_⟩,BB.out⟩
 have X:=G.1
 unfold Up at X
 omega
theorem aLJ {w:World}{gf z:Nat}{h:HD}{d:Int}{A:Option Addr}{E c:Nat}{l:List Int}{P:Option Addr}{n cp:Nat}{out:List Int}{cd:Int}(f:FileR w gf z h d A E c l P n cp out cd)(x:Nat)(hx:x<n):Calls Tryz.prog 122 #[.pointer (some ⟨gf,0,none⟩),.int .i64 (x:Int)] w (TellR (recP h l E (out.getD x 0).toNat) (rcode h l E (out.getD x 0).toNat) w):=by
 have t:=yH ((Below.refl w.heap.size w).alloc (yR _) (.cells zR 70))
 have k0:(w.alloc (.cells zR 70)).cell? ⟨gf,0,none⟩=some (.pointer (some ⟨z,0,none⟩)):=(t.out.cell (p:=⟨gf,0,none⟩) f.blk.lt).trans (f.blk.cell (i:=0) rfl)
 have k1:(w.alloc (.cells zR 70)).cell? ⟨gf,1,none⟩=some (.slice P n cp):=(t.out.cell (p:=⟨gf,1,none⟩) f.blk.lt).trans (f.blk.cell (i:=1) rfl)
 have Z1:=yH (heap_alloc_new w (.cells zR 70))
 have aa:(w.alloc (.cells zR 70)).heap.size=w.heap.size+1:=by simp
 have d1:decide ((x:Int)<0)=false:=by simp
 have d2:decide ((n:Int)≤(x:Int))=false:=by simp;omega
 have ac:(x:Int)<(n:Int):=by omega
 obtain⟨a,ha⟩: ∃a:Nat,out.getD x 0=(a:Int):=by
  have y:x<out.length:=by rw[f.len];exact hx
  have e:out.getD x 0=out[x]:=by simp[List.getElem?_eq_getElem y]
  have:=f.nn _ (List.getElem_mem y)
  exact⟨out[x].toNat,by rw[e];omega⟩
 have I:AllB l:=f.view.by_.1
 have o:=aLp h E (out.getD x 0).toNat I
 rw[ha]at o⊢
 rw[Int.toNat_natCast]at o⊢
 have HR:=yH fun(W:World) (hW:Below w.heap.size w W)=>aNA a W (f.view.below hW)
 have J:P.isSome∨True:= .inr trivial
 obtain⟨m,r,rfl,H,q,_⟩:=f.ints x hx
 dsimp only at q
 rw[ha]at q
 have kP:(w.alloc (.cells zR 70)).cell? ⟨m,r+x,none⟩=some (.int .u64 (a:Int)):=(t.out.cell (p:=⟨m,r+x,none⟩) H).trans q
 have ad:=f.blk.lt
 unfold TellR at HR⊢
 have ab:=yH o
 clear f o q J
 generalize recP h l E a=R at*
 generalize rcode h l E a=V at*
 obtain⟨rs,G,M,X,Z,N⟩:=R
 dsimp only at*
 go_enter Tryz.func122,Tryz.ntmps122
 go_upto_region 3 with fail
 generalize ae:w.alloc (.cells zR 70)=s at*
 have Y:=yH fun(W:World) (hW:Below s.heap.size s W)=>show W.cell? ⟨gf,0,none⟩=some (.pointer (some ⟨z,0,none⟩))∧W.cell? ⟨gf,1,none⟩=some (.slice (some ⟨m,r,none⟩) n cp)∧W.cell? ⟨m,r+x,none⟩=some (.int .u64 (a:Int))from
  ⟨(hW.cell (p:=⟨gf,0,none⟩) (by show gf<_;omega)).trans k0,(hW.cell (p:=⟨gf,1,none⟩) (by show gf<_;omega)).trans k1,(hW.cell (p:=⟨m,r+x,none⟩) (by show m<_;omega)).trans kP⟩
 have B:=yH (show Below s.heap.size s s.drew from(Below.refl s.heap.size s).drew)
 refine wp_region_noPanic ?_
 refine wp_region_held_drew (S:=fun W:World=>W.cell? ⟨gf,0,none⟩=some (.pointer (some ⟨z,0,none⟩))∧W.cell? ⟨gf,1,none⟩=some (.slice (some ⟨m,r,none⟩) n cp)∧W.cell? ⟨m,r+x,none⟩=some (.int .u64 (a:Int))) (by kernel_rfl) (by exact Y.out _ B.out) (fun hHeld=>?_)
 refine tq 0 18 rfl (fun W hSw=>by obtain⟨k,g,j⟩:=hSw;go_simp;try (with_reducible rfl)) ?_
 try simp only[Act.put,sA,sZ,sS]
 refine tq 1 19 rfl (fun W hSw=>by obtain⟨k,g,j⟩:=hSw;go_simp;try (with_reducible rfl)) ?_
 try simp only[Act.put,sA,sZ,sS]
 refine tq 2 20 rfl (fun W hSw=>by obtain⟨k,g,j⟩:=hSw;go_simp;try (with_reducible rfl)) ?_
 try simp only[Act.put,sA,sZ,sS]
 refine tq 3 21 rfl (fun W hSw=>by obtain⟨k,g,j⟩:=hSw;go_simp;try (with_reducible rfl)) ?_
 try simp only[Act.put,sA,sZ,sS]
 refine tq 4 22 rfl (fun W hSw=>by obtain⟨k,g,j⟩:=hSw;go_simp;try (with_reducible rfl)) ?_
 try simp only[Act.put,sA,sZ,sS]
 refine tq 5 23 rfl (fun W hSw=>by obtain⟨k,g,j⟩:=hSw;go_simp;try (with_reducible rfl)) ?_
 try simp only[Act.put,sA,sZ,sS]
 refine tq 6 24 rfl (fun W hSw=>by obtain⟨k,g,j⟩:=hSw;go_simp;try (with_reducible rfl)) ?_
 try simp only[Act.put,sA,sZ,sS]
 refine tq 7 25 rfl (fun W hSw=>by obtain⟨k,g,j⟩:=hSw;go_simp;try (with_reducible rfl)) ?_
 try simp only[Act.put,sA,sZ,sS]
 refine tq 8 26 rfl (fun W hSw=>by obtain⟨k,g,j⟩:=hSw;go_simp;try (with_reducible rfl)) ?_
 try simp only[Act.put,sA,sZ,sS]
 refine tq 9 27 rfl (fun W hSw=>by obtain⟨k,g,j⟩:=hSw;go_simp;try (with_reducible rfl)) ?_
 try simp only[Act.put,sA,sZ,sS]
 refine tq 10 28 rfl (fun W hSw=>by obtain⟨k,g,j⟩:=hSw;go_simp;try (with_reducible rfl)) ?_
 try simp only[Act.put,sA,sZ,sS]
 refine rd 11 rfl (fun KK hKK=>?_)
 go_simp
 ((refine(HR.out _ (t.out.trans (B.out.mono (by omega)))).mono ?_);rintro e w2 ⟨F,C,rfl,hp,u⟩;have HP:=yH hp;have b2:=yH (B.out.trans (u.mono B.out.size));have L:=yH ((b2.out.block w.heap.size (by omega)).trans Z1.out);clear hp u)
 try go_wp2_with fail
 refine hKK.out _ _ (by exact(Y.out _ b2.out)) (fun hHeld=>?_)
 clear hKK KK
 try simp only[Act.put,sA,sZ,sS]
 refine tq 12 30 rfl (fun W hSw=>by obtain⟨k,g,j⟩:=hSw;go_simp;try (with_reducible rfl)) ?_
 try simp only[Act.put,sA,sZ,sS]
 refine tq 13 31 rfl (fun W hSw=>by obtain⟨k,g,j⟩:=hSw;go_simp;try (with_reducible rfl)) ?_
 try simp only[Act.put,sA,sZ,sS]
 refine rd 14 rfl (fun KK hKK=>?_)
 split
 ·refine wp_store_row 70 (.tmp 4) (.tmp 30) rfl w.heap.size (recL rs G M X (.slice F Z C)).toArray rfl rfl 70 zR L.out (aAm _ _ _ _ _) rfl (by simp[Value.oneCell']) ?_
  have bF:=yH (below_setRow (t.out.trans (b2.out.mono (by omega))) (yR w.heap.size) (recL rs G M X (.slice F Z C)).toArray)
  refine hKK.out _ _ (by
   obtain⟨q1,q2,q3⟩:=Y.out _ b2.out
   exact⟨(World.cell?_of_block (a:=⟨gf,0,none⟩) (setRow_other _ _ _ _ (show gf≠w.heap.size by omega))).trans q1,(World.cell?_of_block (a:=⟨gf,1,none⟩) (setRow_other _ _ _ _ (show gf≠w.heap.size by omega))).trans q2,(World.cell?_of_block (a:=⟨m,r+x,none⟩) (setRow_other _ _ _ _ (show m≠w.heap.size by omega))).trans q3⟩) (fun hHeld=>?_)
  clear hKK KK
  try simp only[Act.put,sA,sZ,sS]
  refine tq 15 5 rfl (fun W hSw=>by obtain⟨k,g,j⟩:=hSw;go_simp;try (with_reducible rfl)) ?_
  try simp only[Act.put,sA,sZ,sS]
  refine wpAnyH_done (by kernel_rfl) ?_ _
  refine NoPanic.normal ?_
  go_wp2_with fail
  refine bodyPost_ret (v:= .tuple #[.agg (recL rs G M X (.slice F Z C)).toArray,.int .i64 V]) (by exact aAr Tryz.results122 _ _ w.heap.size 70 _ (0,0) _ _ rfl rfl (setRow_heap _ _ _ _ _ (0,0) L.out) Tryz.underlying70 rfl (aAm _ _ _ _ _)) rfl ?_
  refine⟨F,⟨C,rfl⟩,?_,bF.out⟩
  rcases Nat.eq_zero_or_pos N.length with D|D
  ·rw[List.eq_nil_of_length_eq_zero D]
   exact Prs.nil _ _
  ·exact HP.out.keptB (by rw[setRow_size];exact yR _) fun b off e hb=>setRow_other _ _ _ _ (prs_off HP.out L.out b off e D)
 ·next hno=>exact absurd (by rfl) hno
theorem aLK {w:World}{gf gv:Nat}{h:HD}{d:Int}{A:Option Addr}{E c:Nat}{l:List Int}{P:Option Addr}{n cp:Nat}{out:List Int}{cd:Int}(f:FileR w gf gv h d A E c l P n cp out cd):
 Calls Tryz.prog 121 #[.pointer (some ⟨gf,0,none⟩)] w fun e w'=> ∃v m y,e= .returned (.slice v m y)∧OwnE 3 1 w' w.heap.size v m y (ints (goodL h l E out n))∧(goodL h l E out n).length=m∧Below w.heap.size w w':=by
 have k1:=f.blk.cell (i:=1) rfl
 have ag:=yH f.blk.lt
 have ai:=f.nb
 have HR:=yH fun(x:Nat) (hx:x<n) (W:World) (hW:Below w.heap.size w W)=>aLJ (f.below hW) x hx
 have ad:=fun k=>aAR (jC h l E out) (fun x=>(jR h l E out x).s) k
 unfold goodL
 have hC: ∀x,jC h l E out x=rcode h l E (out.getD x 0).toNat:=fun _=>rfl
 have hR: ∀x,jR h l E out x=recP h l E (out.getD x 0).toNat:=fun _=>rfl
 simp only[←hC,←hR]at HR
 clear f hC hR
 generalize hS:(fun x=>(jR h l E out x).s)=S at*
 generalize jR h l E out=R at*
 generalize jC h l E out=C at*
 unfold TellR at HR
 have M:=yH ad
 clear ad
 go_enter Tryz.func121,Tryz.ntmps121
 go_wp2_with fail
 go_loopw [3,4,5] (fun s g i wr=> ∃(k m:Nat) (v:Option Addr) (y:Nat),k≤n∧s= .slice v m y∧g= .int .u64 (goodR C S k).2∧i= .int .i64 (k:Int)∧Hid (OwnE 3 1 wr w.heap.size v m y (ints (goodR C S k).1))∧Hid ((goodR C S k).1.length=m)∧Hid (Below w.heap.size w wr)) (fun _ _ i _=>n-Rn.natOf i)
 case atStart=>exact⟨0,0,none,0,Nat.zero_le _,rfl,rfl,rfl,yH (OwnE.nil w w.heap.size (yR _)),yH rfl,yH (Below.refl _ _)⟩
 case round=>
  obtain⟨k,m,v,y,hk,rfl,rfl,rfl,hO,hL,I⟩:=hrel
  have ak:wr.cell? ⟨gf,1,none⟩=some (.slice P n cp):=(I.out.cell (p:=⟨gf,1,none⟩) ag.out).trans k1
  by_cases z:k<n
  ·have ah:decide ((k:Int)<(n:Int))=true:=by simp;omega
   have aj:IntKind.i64.wrap ((k:Int)+1)=((k+1:Nat):Int):=by rw[IntKind.wrap_i64];omega
   have H:=yH (HR.out k z wr I.out)
   have hm:=(M.out k).2.1
   have B:=hL.out
   have j:=yH (aCo (C:=C) (S:=S) (k:=k))
   have b:=yH (aDA (C:=C) (S:=S) (k:=k))
   have aa:S k=(R k).s:=by rw[←hS]
   rw[aa]at j b
   clear HR M aa
   generalize goodR C S k=q at*
   obtain⟨L,gr⟩:=q
   dsimp only at hO hL hm B j b
   generalize C k=ck at*
   generalize R k=r at*
   obtain⟨rs,J,Y,rK,rn,am⟩:=r
   dsimp only at H j b
   clear hS
   go_upto_region 7 with(first
    |(go_at_call 122;(refine H.out.mono ?_);rintro e w2 ⟨F,V,rfl,_,G⟩;have B2:=yH (I.out.trans (G.mono I.out.size));have O2:=yH (hO.out.kept G (yR _));clear G)
    |((with_reducible apply aAa (.tmp 6) (.tmp 21));refine wpList_store_row rfl 70 (.tmp 6) (.tmp 21) rfl w2.heap.size (recL rs J Y rK (.slice F rn V)).toArray rfl rfl 70 zR (heap_alloc_new w2 _) (aAm _ _ _ _ _) rfl (by simp[Value.oneCell']) ?_)
    |fail)
   have R3:=yH (show Blk ((w2.alloc (.cells zR 70)).setRow w2.heap.size (recL rs J Y rK (.slice F rn V)).toArray) w2.heap.size (recL rs J Y rK (.slice F rn V)) 70 from setRow_heap _ _ _ _ _ (0,0) (heap_alloc_new w2 _))
   have b3:=yH (show Below w2.heap.size w2 ((w2.alloc (.cells zR 70)).setRow w2.heap.size (recL rs J Y rK (.slice F rn V)).toArray)from below_setRow ((Below.refl _ _).alloc (yR _) _) (yR _) _)
   have O3:=yH (O2.out.kept b3.out (yR _))
   have af:=yH (fun k hk=>(show k<w2.heap.size from(Dc.OwnE.ltB O2.out k hk).2))
   have B3:=yH (B2.out.trans (b3.out.mono B2.out.size))
   clear b3 H hO
   generalize (w2.alloc (.cells zR 70)).setRow w2.heap.size (recL rs J Y rK (.slice F rn V)).toArray=w3 at*
   have al:=B2.out.size
   clear O2 B2
   generalize w2.heap.size=Z at*
   have k0:w3.cell? ⟨Z,0,none⟩=some (.int .u64 rs):=R3.out.cell (i:=0) rfl
   by_cases t:ck=0
   ·subst t
    by_cases hg:gr<rs
    ·have D:=j.out ⟨rfl,hg⟩
     have o:=yH D
     have d1:decide (gr<rs)=true:=by simp;omega
     have ac:=yH (R3.out.alloc (.cells #[.int .i64 (k:Int)] 3))
     clear j b hg D
     go_upto_region 9 with(first
      |(at_builtin;refine aAe intE rfl (.tmp 31) (.tmp 33) rfl w.heap.size v m y (ints L) rfl (OwnE.alloc O3.out _) ⟨w3.heap.size,0,none⟩ 1 1 [.int .i64 (k:Int)] rfl rfl (Blk.news (Blk.new w3 [.int .i64 (k:Int)] 3)) (by intro u hu;simp at hu;subst hu;rfl) (by omega) (by omega) (by unfold maxLen;omega) ?_;intro A6 c6 w6 N ab X;have O6:=yH N;have G6:=yH ab;clear N ab X)
      |fail)
     have B6:=yH ((B3.out.alloc B3.out.size (.cells #[.int .i64 (k:Int)] 3)).trans (Own8.below_grown G6.out (by have:=B3.out.size;simp;omega) (fun k hk=>(Dc.OwnE.ltB O3.out k hk).1)))
     have k6:w6.cell? ⟨Z,0,none⟩=some (.int .u64 rs):=(World.cell?_of_block (a:=⟨Z,0,none⟩) (G6.out.block Z ac.out.lt (fun e=>by have h2:=af.out Z e.symm;omega))).trans (ac.out.cell (i:=0) rfl)
     go_wp2_with fail
     go_roundw
     case rel=>exact⟨k+1,m+1,A6,c6,z,rfl,by rw[o.out],rfl,yH (by rw[o.out,aGN];exact O6.out),yH (by rw[o.out,List.length_append,List.length_singleton,B]),B6⟩
     case measure=>simp[Rn.natOf];omega
    ·have D:=b.out (fun h=>hg h.2)
     have o:=yH D
     have d1:decide (gr<rs)=false:=by simp;omega
     clear j b hg D
     go_wp2_with fail
     go_roundw
     case rel=>exact⟨k+1,m,v,y,z,rfl,by rw[o.out],rfl,yH (by rw[o.out];exact O3.out),yH (by rw[o.out];exact B),B3⟩
     case measure=>simp[Rn.natOf];omega
   ·have D:=b.out (fun h=>t h.1)
    have o:=yH D
    have d0:decide (ck=0)=false:=by simpa using t
    have d1:(ck==0)=false:=by simpa using t
    clear j b t D
    go_wp2_with fail
    go_roundw
    case rel=>exact⟨k+1,m,v,y,z,rfl,by rw[o.out],rfl,yH (by rw[o.out];exact O3.out),yH (by rw[o.out];exact B),B3⟩
    case measure=>simp[Rn.natOf];omega
  ·have ah:decide ((k:Int)<(n:Int))=false:=by simp;omega
   have ae:k=n:=by omega
   subst ae
   go_wp2_with fail
   go_ret
   exact⟨v,m,y,rfl,hO.out,hL.out,I.out⟩
end Jj
namespace Zk
open Bytes8 Blk8 Ya Ob Ga Ma Mb Mg Na Nc Nh Nl Np Nq Ns Nt Nu Fa Yd Yc Yp Yg Yj Za Zb Zc Zd Ze Zg Zh Zj Pr8 Ps8 Pl8 Rj Rk Rm Rn Rr Va
open Rd (dcode dz)
open Ri (ecode9)
abbrev W64 (x:Int):Prop:=0≤x∧x≤18446744073709551615
theorem aGP (s r m:Int)(K:Nat→Int)(x:Int)(a:List Int):entB s r m K x a=nums [s,r,m]++(idL K++(nums [x]++nums a)):=by unfold entB;simp
theorem aNH (s r m:Int)(K:Nat→Int)(x:Int)(a:List Int)(hs:W64 s)(b:W64 r)(c:W64 m)(d:W64 x):
 u8 (entB s r m K x a) 0=s∧u8 (entB s r m K x a) 8=r∧u8 (entB s r m K x a) 16=m∧u8 (entB s r m K x a) 40=x:=by
 rw[aGP]
 refine⟨nums_at [s,r,m] _ 0 0 rfl (by simp) hs,nums_at [s,r,m] _ 1 8 rfl (by simp) b,nums_at [s,r,m] _ 2 16 rfl (by simp) c,?_⟩
 have h:=aDo (nums [s,r,m]++idL K) (nums [x]++nums a) 40 0 (by rw[List.length_append,nums_len];rfl)
 rw[List.append_assoc]at h
 rw[h]
 exact nums_at [x] _ 0 0 rfl (by simp) d
theorem aQv (s r m:Int)(K:Nat→Int)(x:Int)(b:List Int)(i:Nat)(a:i<16):itK (entB s r m K x b) i=K i:=by
 unfold itK
 rw[if_pos a,aGP,List.getD_eq_getElem?_getD,List.getElem?_append_right (by rw[nums_len];simp),nums_len]
 rw[show 24+i-8* [s,r,m].length=i by simp,List.getElem?_append_left (by simpa [idL]using a)]
 unfold idL
 rcases i with _|_|_|_|_|_|_|_|_|_|_|_|_|_|_|_|i
 all_goals first|rfl|omega
theorem aLL (s r m:Int)(K:Nat→Int)(x:Int)(f g:Nat→Int)(n i:Nat)(b:i<n)(d:Wd f n)(c:Wd g n):
 itA (entB s r m K x (prs f g n)) i=f i∧itH (entB s r m K x (prs f g n)) i=g i:=by
 unfold itA itH entB
 have a:(nums [s,r,m]++idL K++nums [x]).length=48:=by rw[List.length_append,List.length_append,nums_len,nums_len];rfl
 have h:=aMB f g n i b d c []
 rw[List.append_nil]at h
 rw[aDo _ _ 48 _ a,Nat.add_assoc,aDo _ _ 48 _ a]
 exact h
theorem aPh {l m:List (List Int)}(h:l.Perm m):xr l=xr m:=by
 induction h with
 |nil=>rfl
 |cons x _ ih=>rw[aBt,aBt,ih]
 |swap x y l=>rw[aBt,aBt,aBt,aBt,Nat.xor_assoc,Nat.xor_assoc,Nat.xor_comm (lookN x)]
 |trans _ _ h1 h2=>exact h1.trans h2
theorem aLM {f:Nat→Int}: ∀ {n:Nat},(∀i,i+1<n→f i<f (i+1))→risB f n=true
 |0,_=>rfl
 |1,_=>rfl
 |n+2,h=>by
  unfold risB
  rw[aLM (n:=n+1) (fun i hi=>h i (by omega))]
  simpa using h n (by omega)
theorem aLN {who:List Nat}{T:Nat→List Int}{P:Nat→List Int}(h: ∀i (hi:i<who.length),P i=T who[i]):rowsL P who.length=who.map T:=by
 unfold rowsL
 refine List.ext_getElem (by simp) fun i h1 h2=>?_
 rw[List.getElem_map,List.getElem_map,List.getElem_range]
 exact h i (by simpa using h2)
theorem aP8 (H:HD)(C:Cf)(b:H.ic=if C.keyed then 4 else 0)(a: ∀i,i<16→H.I i=C.F i):keyB H.ic=C.keyed∧idL H.I=Cf.file C:=by
 refine⟨?_,?_⟩
 ·rw[b]
  cases C.keyed
  ·rfl
  ·rfl
 ·unfold idL Cf.file idL
  rw[a 0 (by decide),a 1 (by decide),a 2 (by decide),a 3 (by decide),a 4 (by decide),a 5 (by decide),a 6 (by decide),a 7 (by decide),a 8 (by decide),a 9 (by decide),a 10 (by decide),a 11 (by decide),a 12 (by decide),a 13 (by decide),a 14 (by decide),a 15 (by decide)]
theorem aLO {m:Mk}{k:List O}{hs:Nat→List Nat}{M:List Nat}{B:List (Nat×List Int)}(p:Hold m k hs M B){H:HD}{l q:List Int}(u:l=q++enc k)(s:q.length=272)(w:H.N 0=272)(j:H.ic=if m.C.keyed then 4 else 0)(E: ∀i,i<16→H.I i=m.C.F i){x:Nat}(t:x<m.datas.length)(e:(Mk.kn m x).text≠ []):
 hcode9 H l l.length (Mk.kn m x).at_=0∧bnum l (Mk.kn m x).at_ 1 6 0=Mk.sum m (Mk.kn m x).text∧bpay l (Mk.kn m x).at_ 1 6=(Mk.kn m x).text∧(Mk.kn m x).at_<l.length:=by
 have D:=p.dat x t
 rw[kn_at t]at e⊢
 generalize m.datas[x]=d at*
 obtain⟨o,h,n⟩:=aBm D.sh
 have v:=p.rep.ok o (aCn _ _ _ _ h)
 injection n with h1 h2 h3 h4
 obtain⟨X,L,V,g⟩:=aH2 u s h v
 have y:=List.length_pos_iff.2 e
 have G:o.body.length=48+d.text.length:=by rw[O.body_len,h2,h3]
 have c:bcode l d.at_ 1 6=0:=by
  unfold bcode
  rw[if_neg (by omega),L,h1,if_neg (by decide),g,if_neg (by omega)]
 have J:l.length=endO k:=by rw[u,List.length_append,s];rfl
 have f:=aBn D.sh
 dsimp only at f
 have r:272≤d.at_:=f.1
 have b:bnum l d.at_ 1 6 0=Mk.sum m d.text:=by
  unfold bnum
  rw[if_pos c,g,show 8*0=0 from rfl,aHT v 0 0 (by omega) rfl,←D.w0]
  unfold wd
  rw[h]
 have a:bpay l d.at_ 1 6=d.text:=by
  unfold bpay
  rw[if_pos c,g]
  unfold O.body
  rw[List.drop_left' (by rw[nums_len,h2]),h3]
 have A:dcode H l l.length d.at_=0:=by
  unfold dcode
  rw[if_pos ⟨by rw[w];omega,by omega⟩,c]
 obtain⟨R,z⟩:=aP8 H m.C j E
 refine⟨?_,b,a,by omega⟩
 unfold hcode9
 rw[if_neg (by omega),b,a,R,z]
 exact if_pos rfl
theorem aNI {m:Mk}{rs:List RR}{os:List O}{hs:Nat→List Nat}{w:List Nat}{B:List (Nat×List Int)}(k:Kept m rs.length os hs w B)(q:Recs m rs B){H:HD}{l hd:List Int}(hl:l=hd++enc os)(hh:hd.length=272)(h0:H.N 0=272)(aj:H.ic=m.h.ic)(hI: ∀i,i<16→H.I i=m.h.I i)(i:Nat)(G:i<rs.length):
 rcode H l l.length (w.getD i 0)=0∧(recP H l l.length (w.getD i 0)).s=m.h.N 9-rs.length+i+1∧(recP H l l.length (w.getD i 0)).r=rs[i].2.1∧(recP H l l.length (w.getD i 0)).m=rs[i].2.2.1∧(∀j,j<16→(recP H l l.length (w.getD i 0)).K j=rs[i].2.2.2 j)∧(∀x,x∈(recP H l l.length (w.getD i 0)).pl↔x∈listL rs[i].1):=by
 have u:i<B.length:=by have:=q.len;omega
 have ac:w.getD i 0=B[i].1:=by
  rw[←k.ent,List.getD_eq_getElem?_getD,List.getElem?_eq_getElem (by rw[List.length_map];exact u),List.getElem_map];rfl
 have ab:=k.bd B[i].1 (by rw[←k.ent];exact List.mem_map.2 ⟨_,List.getElem_mem u,rfl⟩)
 rw[ac]
 have hE:=k.hold.ent i u
 obtain⟨who,w1,w2,w3,w4⟩:=q.ent i G u
 have hr:=q.ok rs[i] (List.getElem_mem G)
 have ar:=q.base
 have ap:=q.top
 have J:H.ic=if m.C.keyed then 4 else 0:=aj.trans q.ic
 have ag: ∀i,i<16→H.I i=m.C.F i:=fun i G=>(hI i G).trans (q.I i G)
 generalize rs[i]=r at*
 obtain⟨L,real,mono,K⟩:=r
 obtain⟨r1,r2,r3,r4,r5⟩:=hr
 dsimp only at r1 r2 r3 r4 r5 w3 w4⊢
 have ad:W64 (m.h.N 9-(rs.length:Int)+(i:Int)+1):=⟨by omega,by omega⟩
 have X:m.h.N 9-(rs.length:Int)+(i:Int)+1≠0:=by omega
 generalize m.h.N 9-(rs.length:Int)+(i:Int)+1=sq at*
 generalize B[i]=e at*
 obtain⟨a,body⟩:=e
 dsimp only at hE ab w4⊢
 obtain⟨n16,A⟩:=aHE r1
 have Z:listL L≠ []:=by
  unfold listL
  rw[if_pos r1]
  have hL:L≠ []:=fun h=>by unfold listE at r1;rw[if_pos h]at r1;cases r1
  obtain⟨y,hy⟩:=List.exists_mem_of_ne_nil _ hL
  exact List.ne_nil_of_mem ((aBb _ y).2 ((aC0 L y).2 hy))
 have ah:who.length=(listL L).length:=by have:=w3.length_eq;rwa[List.length_map,List.length_map]at this
 have aq:0<who.length:=by rw[ah];exact List.length_pos_iff.2 Z
 have d: ∀x∈who,∃p∈listL L,(Mk.kn m x).text=pay p.1 p.2∧flawI p.1 p.2=0:=fun x b=>by
  obtain⟨p,hp,e⟩:=List.mem_map.1 (w3.mem_iff.1 (List.mem_map.2 ⟨x,b,rfl⟩))
  exact⟨p,hp,e.symm,(A p hp).2⟩
 have al: ∀x∈who,(Mk.kn m x).text≠ []:=fun x b=>by
  obtain⟨p,_,e,_⟩:=d x b
  rw[e];unfold pay;simp
 have z: ∀x∈who,_:=fun x b=>aLO k.hold hl hh h0 J ag (w1 x b) (al x b)
 have ao:l.length=endO os:=by rw[hl,List.length_append,hh];rfl
 have an:=k.hold.rep.size
 have am:=k.good.img.len
 have hf:Wd (fun i=>((Mk.kn m (who.getD i 0)).at_:Int)) who.length:=fun j hj=>by
  have:=(z _ (List.getElem_mem hj)).2.2.2
  rw[←getD_lt hj]at this
  dsimp only
  omega
 have hg:Wd (fun i=>Mk.sum m (Mk.kn m (who.getD i 0)).text) who.length:=fun j hj=>by
  have D:=k.hold.dat _ (w1 _ (List.getElem_mem hj))
  have h2:=aPY k.hold.rep (a:=(m.datas[who[j]]'(w1 _ (List.getElem_mem hj))).at_) (j:=0)
  rw[D.w0]at h2
  dsimp only
  rw[getD_lt hj,kn_at (w1 _ (List.getElem_mem hj))]
  exact h2
 have hX:W64 ((xr ((listL L).map fun q=>pay q.1 q.2):Nat):Int):=by
  have:=aPi ((listL L).map fun q=>pay q.1 q.2)
  exact⟨by omega,by omega⟩
 obtain⟨o,ho,ak⟩:=aBm hE
 have ok:=k.hold.rep.ok o (aCn _ _ _ _ ho)
 injection ak with h1 h2 h3 h4
 obtain⟨c1,c2,c3,n⟩:=aH2 hl hh ho ok
 have ai:o.body=body:=by
  unfold O.body
  rw[List.eq_nil_of_length_eq_zero h2,h3]
  rfl
 rw[ai]at c3 n
 have af:body.length=48+16*who.length:=by rw[w4,aDC]
 obtain⟨n0,n8,v,V⟩:=aNH sq real mono K _ (prs (fun i=>((Mk.kn m (who.getD i 0)).at_:Int)) (fun i=>Mk.sum m (Mk.kn m (who.getD i 0)).text) who.length) ad r3 r4 hX
 have c:=fun j hj=>aLL sq real mono K ((xr ((listL L).map fun q=>pay q.1 q.2):Nat):Int) (fun i=>((Mk.kn m (who.getD i 0)).at_:Int)) (fun i=>Mk.sum m (Mk.kn m (who.getD i 0)).text) who.length j hj hf hg
 have R:=fun j hj=>aQv sq real mono K ((xr ((listL L).map fun q=>pay q.1 q.2):Nat):Int) (prs (fun i=>((Mk.kn m (who.getD i 0)).at_:Int)) (fun i=>Mk.sum m (Mk.kn m (who.getD i 0)).text) who.length) j hj
 rw[←w4]at n0 n8 v V c R
 have hN:itN body=who.length:=by unfold itN;omega
 have E:risB (itA body) who.length=true:=by
  rw[aLZ (fun j hj=>(c j hj).1)]
  refine aLM fun j hj=>?_
  have h5:=List.pairwise_iff_getElem.1 w2 j (j+1) (by omega) (by omega) (by omega)
  try dsimp only
  rw[getD_lt (by omega),getD_lt (by omega)]
  omega
 have au:ecode l a 3 48 16=0:=by
  unfold ecode
  rw[if_neg (by omega),c2,h1,if_neg (by decide),n,af,if_neg (by omega)]
 have g:entC0 l a=0:=by
  unfold entC0
  rw[if_neg (by omega),n,n0,if_neg X,hN,E]
  rfl
 obtain⟨t1,t2,t3⟩:=aFe g
 rw[n]at t2 t3
 have Y:ecode9 H l l.length a=0:=by
  unfold ecode9
  rw[if_pos ⟨by rw[h0];omega,by omega⟩,g]
 have hP: ∀j (hj:j<who.length),payP l (itA body) j=(Mk.kn m who[j]).text:=fun j hj=>by
  show bpay l (itA body j).toNat 1 6=_
  rw[(c j hj).1]
  try dsimp only
  rw[getD_lt hj,Int.toNat_natCast]
  exact(z _ (List.getElem_mem hj)).2.2.1
 have f:rowsL (payP l (itA body)) who.length=who.map fun x=>(Mk.kn m x).text:=aLN hP
 have aa: ∀j,j<who.length→icode H l l.length (itA body) (itH body) j=0:=fun j hj=>by
  obtain⟨p1,p2,p3,p4⟩:=z _ (List.getElem_mem hj)
  have e1:itA body j=((Mk.kn m who[j]).at_:Int):=by rw[(c j hj).1];(try dsimp only);rw[getD_lt hj]
  have e2:itH body j=Mk.sum m (Mk.kn m who[j]).text:=by rw[(c j hj).2];(try dsimp only);rw[getD_lt hj]
  rw[aBG e1 p1 (p2.trans e2.symm),p3]
  obtain⟨p,_,e,fl⟩:=d _ (List.getElem_mem hj)
  rw[e]
  exact(aBa fl).1
 have M:rcode H l l.length a=0:=by
  unfold rcode
  rw[t3,hN,n]
  refine(aLo H l l.length _ who.length (itA body) (itH body) _).e Y (by omega) aa ?_
  rw[t1,n,V,f,aPh w3]
 unfold recP
 rw[if_pos M]
 refine⟨M,?_,?_,?_,fun j hj=>?_,fun x=>?_⟩
 ·show eNum l a 0=sq;rw[t1,n,n0]
 ·show eNum l a 8=real;rw[t1,n,n8]
 ·show eNum l a 16=mono;rw[t1,n,v]
 ·show eK l a j=K j;rw[t2];exact R j hj
 ·show x∈prsL (payP l (itA (bodyL l a))) (eN l a)↔_
  rw[t3,hN,n]
  have ae:prsL (payP l (itA body)) who.length=(who.map fun x=>(Mk.kn m x).text).map fun t=>(splitN t,splitV t):=by
   rw[←f]
   unfold prsL rowsL
   rw[List.map_map]
   rfl
  rw[ae]
  constructor
  ·intro b
   obtain⟨t,ht,e⟩:=List.mem_map.1 b
   obtain⟨p,hp,e2⟩:=List.mem_map.1 (w3.mem_iff.1 ht)
   obtain⟨_,s2,s3⟩:=aBa (A p hp).2
   rw[←e,←e2]
   try dsimp only
   rw[s2,s3]
   exact hp
  ·intro b
   obtain⟨_,s2,s3⟩:=aBa (A x b).2
   refine List.mem_map.2 ⟨pay x.1 x.2,w3.mem_iff.2 (List.mem_map.2 ⟨x,b,rfl⟩),?_⟩
   rw[s2,s3]
end Zk
end Go.Proofs.YtlelnfokffflnaaGreat
