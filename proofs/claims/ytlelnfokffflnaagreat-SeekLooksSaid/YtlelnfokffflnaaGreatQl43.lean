/-
  Texts beneath the proof.
-/
import Derived.Test.YtlelnfokffflnaaGreatQl42
set_option linter.unusedVariables false
set_option linter.unusedSimpArgs false
set_option maxRecDepth 100000
set_option maxHeartbeats 8000000
open Go.ChangeShapes Go.WideShapes Go.ChangeAt Go.RowKit
namespace Go.Proofs.YtlelnfokffflnaaGreat
namespace Skc
open Bytes8 Blk8 Own8 OwnE Rows2 Ga Gb Ma Na Np Nr Ns Nt Rc Rn Rr Va Wa Pr8 Ja Jb Jc Jd Ska
open Jj (prs_off)
open Go1 (hcode)
open Yg (NewIn aAr)
def rK (h:HD)(l:List Int)(E:Nat)(out:List Int)(n:Nat):Nat→RecP:=fun k=>jR h l E out ((goodL h l E out n).getD k 0)
def Idx (w:World)(gx m:Nat)(R:Nat→RecP):Prop:= ∃(gf gv:Nat) (h:HD) (A:Option Addr) (E c:Nat) (l:List Int) (P:Option Addr) (n cp:Nat) (out:List Int) (cd:Int) (GA:Option Addr) (mc:Nat),
 Blk w gx [.pointer (some ⟨gf,0,none⟩),.slice GA m mc] 160∧FileAt w gf gv h A E c l P n cp out cd∧InInts .i64 w GA m (fun i=>(((goodL h l E out n).getD i 0:Nat):Int))∧(goodL h l E out n).length=m∧R=rK h l E out n
theorem Idx.below {w w':World}{d m:Nat}{R:Nat→RecP}(x:Idx w d m R)(b:Below w.heap.size w w'):Idx w' d m R:=by
 obtain⟨gf,i,h,A,E,c,l,P,n,cp,out,cd,o,k,f,j,p,g,q⟩:=x
 exact⟨gf,i,h,A,E,c,l,P,n,cp,out,cd,o,k,f.below b f.lt,j.below b,p.below b,g,q⟩
theorem Idx.facts {w:World}{i m:Nat}{R:Nat→RecP}(x:Idx w i m R):m≤800000∧(∀k,(R k).Ok)∧(∀a b,a<b→b<m→(R a).s<(R b).s)∧i<w.heap.size:=by
 obtain⟨gf,r,h,A,E,c,l,P,n,cp,out,cd,u,t,p,g,z,h4,rfl⟩:=x
 obtain⟨C,B,y,j⟩:=aAR (jC h l E out) (fun x=>(jR h l E out x).s) n
 have o:(goodR (jC h l E out) (fun x=>(jR h l E out x).s) n).1.length=m:=h4
 have q:=g.nb
 refine⟨by omega,fun k=>aLp h E _ g.view.by_.1,fun a b hab hb=>?_,p.lt⟩
 have f:a<(goodR (jC h l E out) (fun x=>(jR h l E out x).s) n).1.length:=by omega
 have d:b<(goodR (jC h l E out) (fun x=>(jR h l E out x).s) n).1.length:=by omega
 have k:=(List.pairwise_iff_getElem.1 j) a b f d hab
 show(jR h l E out ((goodR (jC h l E out) (fun x=>(jR h l E out x).s) n).1.getD a 0)).s<(jR h l E out ((goodR (jC h l E out) (fun x=>(jR h l E out x).s) n).1.getD b 0)).s
 rw[List.getD_eq_getElem?_getD,List.getElem?_eq_getElem f,List.getD_eq_getElem?_getD,List.getElem?_eq_getElem d]
 exact k
theorem aNJ {w:World}{b m c:Nat}{A:Option Addr}{L:List Nat}(h:OwnE 3 1 w b A m c (ints L))(l:L.length=m)(k: ∀x∈L,x≤1000000):InInts .i64 w A m (fun i=>((L.getD i 0:Nat):Int)):=fun i hi=>by
 obtain⟨g,e,_,d,f⟩:=OwnE.cell h (i:=i) (by rw[List.length_map];omega)
 have j:L.getD i 0=L[i]:=by simp[List.getElem?_eq_getElem (show i<L.length by omega)]
 refine⟨g,0,e,d,?_,?_⟩
 ·rw[Nat.zero_add]
  refine f.trans ?_
  rw[List.getElem?_map,List.getElem?_eq_getElem (by omega)]
  simp[List.getElem?_eq_getElem (show i<L.length by omega)]
 ·have:=k L[i] (List.getElem_mem _)
  show(Lit.int .i64 ((L.getD i 0:Nat):Int)).wf=true
  rw[j]
  simp[Lit.wf,IntKind.min,IntKind.max,IntKind.signed,IntKind.bits]
  omega
attribute [local irreducible] HD.cells wpList Code.wp
theorem new_any {w:World}{gf q:Nat}{h:HD}{A:Option Addr}{E c:Nat}{l:List Int}{P:Option Addr}{n cp:Nat}{out:List Int}{cd:Int}(f:FileAt w gf q h A E c l P n cp out cd):
 Calls Tryz.prog 61 #[.pointer (some ⟨gf,0,none⟩)] w fun e w'=> ∃gx,e= .returned (.pointer (some ⟨gx,0,none⟩))∧Idx w' gx (goodL h l E out n).length (rK h l E out n)∧Below w.heap.size w w':=by
 have F:=yH (aNE f)
 have z:=yH f
 have G:=f.nb
 obtain⟨t,D,_⟩:=aAR (jC h l E out) (fun x=>(jR h l E out x).s) n
 have u:=yH (show ∀x∈goodL h l E out n,x≤1000000 from fun x hx=>by have:=(t x hx).1;omega)
 have y:=yH fun(W:World) (b g:_) (m d:Nat) (ho:OwnE 3 1 W b g m d (ints (goodL h l E out n))) (hl:(goodL h l E out n).length=m)=>aNJ ho hl u.out
 have B:=yH fun(W:World) (gx m mc:Nat) (GA:Option Addr) (h1:Blk W gx [.pointer (some ⟨gf,0,none⟩),.slice GA m mc] 160) (h2:FileAt W gf q h A E c l P n cp out cd) (h3:InInts .i64 W GA m (fun i=>(((goodL h l E out n).getD i 0:Nat):Int))) (h4:(goodL h l E out n).length=m)=>show Idx W gx m (rK h l E out n)from⟨gf,q,h,A,E,c,l,P,n,cp,out,cd,GA,mc,h1,h2,h3,h4,rfl⟩
 clear f t D u
 generalize rK h l E out n=R at*
 generalize goodL h l E out n=L at*
 go_enter Tryz.func61,Tryz.ntmps61
 go_wp2_with(first
  |(go_at_call 118;(refine F.out.mono ?_);rintro e w1 ⟨g,m,d,rfl,k,j,o⟩;have C:=yH k;have p:=yH j;have r:=yH o;clear k j o)
  |fail)
 have b2:=yH ((Below.refl w1.heap.size w1).alloc (yR _) (.cells #[.pointer (some ⟨gf,0,none⟩),.slice g m d] 160))
 go_ret
 refine⟨w1.heap.size,rfl,?_,r.out.trans (b2.out.mono r.out.size)⟩
 rw[p.out]
 exact B.out _ _ m d g (Blk.new w1 [.pointer (some ⟨gf,0,none⟩),.slice g m d] _) ((z.out.below r.out).below b2.out) (y.out _ _ g m d (C.out.kept b2.out (yR _)) p.out) p.out
theorem aFN {w:World}{b m:Nat}{R:Nat→RecP}(x:Idx w b m R):Calls Tryz.prog 28 #[.pointer (some ⟨b,0,none⟩)] w fun e w'=>e= .returned (.int .i64 (m:Int))∧w=w':=by
 obtain⟨gf,k,h,A,E,c,l,P,n,cp,out,cd,q,p,d,g,j,f,rfl⟩:=x
 have o:=d.cell (i:=1) rfl
 clear d g j f
 go_enter Tryz.func28,Tryz.ntmps28
 go_wp2
 go_ret
 exact⟨rfl,rfl⟩
def ITell (B:Nat)(p:RecP)(w:World)(e:Ending)(w':World):Prop:= ∃F c,e= .returned (.tuple #[p.v F c,.bool true])∧Prs w' F p.pl∧NewIn B F∧Below w.heap.size w w'
theorem aHU {w:World}{H m:Nat}{R:Nat→RecP}(ix:Idx w H m R)(k:Nat)(hk:k<m):Calls Tryz.prog 29 #[.pointer (some ⟨H,0,none⟩),.int .i64 (k:Int)] w (ITell w.heap.size (R k) w):=by
 obtain⟨gf,gv,h,A,E,c,l,P,n,cp,out,cd,GA,mc,h1,h2,h3,h4,rfl⟩:=ix
 have b1:=yH ((Below.refl w.heap.size w).alloc (yR _) (.cells zR 70))
 have Z1:=yH (heap_alloc_new w (.cells zR 70))
 have af:(w.alloc (.cells zR 70)).heap.size=w.heap.size+1:=by simp
 have d1:decide ((k:Int)<0)=false:=by simp
 have d2:decide ((m:Int)≤(k:Int))=false:=by simp;omega
 have am:(k:Int)<(m:Int):=by omega
 obtain⟨j,_,_,_⟩:=aAR (jC h l E out) (fun x=>(jR h l E out x).s) n
 have ah:(goodL h l E out n).getD k 0∈goodL h l E out n:=by
  rw[List.getD_eq_getElem?_getD,List.getElem?_eq_getElem (by omega)]
  exact List.getElem_mem _
 have hx:=j _ ah
 obtain⟨X,Z,rfl,aj,ab,_⟩:=h3 k hk
 dsimp only at ab
 have HR:=yH fun(W:World) (hW:Below w.heap.size w W)=>aOl (h2.below hW) ((goodL h l E out n).getD k 0) hx.1
 have ad:rcode h l E (out.getD ((goodL h l E out n).getD k 0) 0).toNat=0:=hx.2.1
 rw[ad]at HR
 have ae:recP h l E (out.getD ((goodL h l E out n).getD k 0) 0).toNat=q h l E out n k:=rfl
 rw[ae]at HR
 have k0:(w.alloc (.cells zR 70)).cell? ⟨H,0,none⟩=some (.pointer (some ⟨gf,0,none⟩)):=(b1.out.cell (p:=⟨H,0,none⟩) h1.lt).trans (h1.cell (i:=0) rfl)
 have k1:(w.alloc (.cells zR 70)).cell? ⟨H,1,none⟩=some (.slice (some ⟨X,Z,none⟩) m mc):=(b1.out.cell (p:=⟨H,1,none⟩) h1.lt).trans (h1.cell (i:=1) rfl)
 have kP:(w.alloc (.cells zR 70)).cell? ⟨X,Z+k,none⟩=some (.int .i64 (((goodL h l E out n).getD k 0:Nat):Int)):=(b1.out.cell (p:=⟨X,Z+k,none⟩) aj).trans ab
 have an:=h1.lt
 unfold TellRN at HR
 clear h1 h2 h3 h4 ad ae ah hx j ab
 generalize q h l E out n k=r at*
 generalize (goodL h l E out n).getD k 0=x at*
 obtain⟨rs,z,B,q,t,I⟩:=r
 dsimp only at*
 go_enter Tryz.func29,Tryz.ntmps29
 go_upto_region 3 with fail
 generalize ak:w.alloc (.cells zR 70)=d at*
 have V:=yH fun(W:World) (hW:Below d.heap.size d W)=>show W.cell? ⟨H,0,none⟩=some (.pointer (some ⟨gf,0,none⟩))∧W.cell? ⟨H,1,none⟩=some (.slice (some ⟨X,Z,none⟩) m mc)∧W.cell? ⟨X,Z+k,none⟩=some (.int .i64 (x:Int))from
  ⟨(hW.cell (p:=⟨H,0,none⟩) (by show H<_;omega)).trans k0,(hW.cell (p:=⟨H,1,none⟩) (by show H<_;omega)).trans k1,(hW.cell (p:=⟨X,Z+k,none⟩) (by show X<_;omega)).trans kP⟩
 have Y:=yH (show Below d.heap.size d d.drew from(Below.refl d.heap.size d).drew)
 clear k0 k1 kP
 refine wp_region_noPanic ?_
 refine wp_region_held_drew (S:=fun W:World=>W.cell? ⟨H,0,none⟩=some (.pointer (some ⟨gf,0,none⟩))∧W.cell? ⟨H,1,none⟩=some (.slice (some ⟨X,Z,none⟩) m mc)∧W.cell? ⟨X,Z+k,none⟩=some (.int .i64 (x:Int))) (by kernel_rfl) (by exact V.out _ Y.out) (fun hHeld=>?_)
 refine tq 0 21 rfl (fun W hSw=>by obtain⟨j,C,y⟩:=hSw;go_simp;try (with_reducible rfl)) ?_
 try simp only[Act.put,sA,sZ,sS]
 refine tq 1 22 rfl (fun W hSw=>by obtain⟨j,C,y⟩:=hSw;go_simp;try (with_reducible rfl)) ?_
 try simp only[Act.put,sA,sZ,sS]
 refine tq 2 23 rfl (fun W hSw=>by obtain⟨j,C,y⟩:=hSw;go_simp;try (with_reducible rfl)) ?_
 try simp only[Act.put,sA,sZ,sS]
 refine tq 3 24 rfl (fun W hSw=>by obtain⟨j,C,y⟩:=hSw;go_simp;try (with_reducible rfl)) ?_
 try simp only[Act.put,sA,sZ,sS]
 refine tq 4 25 rfl (fun W hSw=>by obtain⟨j,C,y⟩:=hSw;go_simp;try (with_reducible rfl)) ?_
 try simp only[Act.put,sA,sZ,sS]
 refine tq 5 26 rfl (fun W hSw=>by obtain⟨j,C,y⟩:=hSw;go_simp;try (with_reducible rfl)) ?_
 try simp only[Act.put,sA,sZ,sS]
 refine tq 6 27 rfl (fun W hSw=>by obtain⟨j,C,y⟩:=hSw;go_simp;try (with_reducible rfl)) ?_
 try simp only[Act.put,sA,sZ,sS]
 refine tq 7 28 rfl (fun W hSw=>by obtain⟨j,C,y⟩:=hSw;go_simp;try (with_reducible rfl)) ?_
 try simp only[Act.put,sA,sZ,sS]
 refine tq 8 29 rfl (fun W hSw=>by obtain⟨j,C,y⟩:=hSw;go_simp;try (with_reducible rfl)) ?_
 try simp only[Act.put,sA,sZ,sS]
 refine tq 9 30 rfl (fun W hSw=>by obtain⟨j,C,y⟩:=hSw;go_simp;try (with_reducible rfl)) ?_
 try simp only[Act.put,sA,sZ,sS]
 refine tq 10 31 rfl (fun W hSw=>by obtain⟨j,C,y⟩:=hSw;go_simp;try (with_reducible rfl)) ?_
 try simp only[Act.put,sA,sZ,sS]
 refine wpAnyH_ready (rs:=[11,15]) (by kernel_rfl) (by simp) ?_
 refine AllReadyH.cons (o:=⟨some 32,_,_,_,_,_⟩) rfl (fun KK hKK=>?_) (AllReadyH.cons (o:=⟨some 6,_,_,_,_,_⟩) rfl (fun KK hKK=>?_) AllReadyH.nil)
 ·go_simp
  ((refine(HR.out _ (b1.out.trans (Y.out.mono (by omega)))).mono ?_);rintro e w2 ⟨F,f,rfl,hp,L,ai⟩;have HP:=yH hp;have HN:=yH L;have b2:=yH (Y.out.trans (ai.mono Y.out.size));clear hp L ai)
  try go_wp2_with fail
  refine hKK.out _ _ (by exact(V.out _ b2.out)) (fun hHeld=>?_)
  clear hKK KK
  try simp only[Act.put,sA,sZ,sS]
  refine tq 12 20 rfl (fun W hSw=>by obtain⟨j,C,y⟩:=hSw;go_simp;try (with_reducible rfl)) ?_
  try simp only[Act.put,sA,sZ,sS]
  refine tq 13 33 rfl (fun W hSw=>by obtain⟨j,C,y⟩:=hSw;go_simp;try (with_reducible rfl)) ?_
  try simp only[Act.put,sA,sZ,sS]
  refine tq 14 34 rfl (fun W hSw=>by obtain⟨j,C,y⟩:=hSw;go_simp;try (with_reducible rfl)) ?_
  try simp only[Act.put,sA,sZ,sS]
  refine rd 15 rfl (fun KK hKK=>?_)
  go_simp
  have b3:=yH (b2.out.alloc b2.out.size (.cells zR 70))
  refine hKK.out _ _ (by exact(V.out _ b3.out)) (fun hHeld=>?_)
  clear hKK KK
  try simp only[Act.put,sA,sZ,sS]
  obtain⟨u,ac⟩: ∃g,w2.heap.size=g:=⟨_,rfl⟩
  have M:=yH (heap_alloc_new w2 (.cells zR 70))
  have N:=b2.out.size
  have D:=yH (HP.out.below ((Below.refl w2.heap.size w2).alloc (yR _) (.cells zR 70)))
  generalize w2.alloc (.cells zR 70)=w3 at*
  rw[ac]at M N⊢
  refine rd 16 rfl (fun KK hKK=>?_)
  split
  ·refine wp_store_row 70 (.tmp 6) (.tmp 33) rfl u (recL rs z B q (.slice F t f)).toArray rfl rfl 70 zR M.out (aAm _ _ _ _ _) rfl (by simp[Value.oneCell']) ?_
   have bF:=yH (below_setRow b3.out N (recL rs z B q (.slice F t f)).toArray)
   refine hKK.out _ _ (by exact(V.out _ bF.out)) (fun hHeld=>?_)
   clear hKK KK
   try simp only[Act.put,sA,sZ,sS]
   refine tq 17 7 rfl (fun W hSw=>by obtain⟨j,C,y⟩:=hSw;go_simp;try (with_reducible rfl)) ?_
   try simp only[Act.put,sA,sZ,sS]
   refine wpAnyH_done (by kernel_rfl) ?_ _
   refine NoPanic.normal ?_
   have R6:=yH (show Blk (w3.setRow u (recL rs z B q (.slice F t f)).toArray) u (recL rs z B q (.slice F t f)) 70 from setRow_heap _ _ _ _ _ (0,0) M.out)
   have J:=yH (show Prs (w3.setRow u (recL rs z B q (.slice F t f)).toArray) F I from by
    rcases Nat.eq_zero_or_pos I.length with G|G
    ·rw[List.eq_nil_of_length_eq_zero G]
     exact Prs.nil _ _
    ·exact D.out.keptB (by rw[setRow_size];exact yR _) fun b off e hb=>setRow_other _ _ _ _ (prs_off D.out M.out b off e G))
   have Z0:=yH ((bF.out.block w.heap.size (by omega)).trans Z1.out)
   have ag:w.heap.size<d.heap.size:=by omega
   generalize w3.setRow u (recL rs z B q (.slice F t f)).toArray=w6 at*
   clear HR V M D Y b2 b3
   go_wp2_with(first
    |((with_reducible apply aAb 35);refine wpList_load_row rfl 70 (.tmp 6) rfl u rfl 70 (recL rs z B q (.slice F t f)).toArray (0,0) _ R6.out Tryz.underlying70 rfl (aAm _ _ _ _ _) ?_)
    |((with_reducible apply aAa (.tmp 4) (.tmp 35));refine wpList_store_row rfl 70 (.tmp 4) (.tmp 35) rfl w.heap.size (recL rs z B q (.slice F t f)).toArray rfl rfl 70 zR Z0.out (aAm _ _ _ _ _) rfl (by simp[Value.oneCell']) ?_)
    |fail)
   refine bodyPost_ret (v:= .tuple #[.agg (recL rs z B q (.slice F t f)).toArray,.bool true]) (by exact aAr Tryz.results29 _ _ w.heap.size 70 _ (0,0) _ _ rfl rfl (setRow_heap _ _ _ _ _ (0,0) Z0.out) Tryz.underlying70 rfl (aAm _ _ _ _ _)) rfl ?_
   refine⟨F,f,rfl,?_,fun b off e=>by have h7:=HN.out b off e;have h8:d.drew.heap.size=d.heap.size:=rfl;omega,below_setRow (b1.out.trans (bF.out.mono (by omega))) (yR _) _⟩
   rcases Nat.eq_zero_or_pos I.length with G|G
   ·rw[List.eq_nil_of_length_eq_zero G]
    exact Prs.nil _ _
   ·exact J.out.keptB (by rw[setRow_size];exact yR _) fun b off e hb=>setRow_other _ _ _ _ (prs_off J.out Z0.out b off e G)
  ·next hno=>exact absurd (by rfl) hno
 ·go_simp
  have b2:=yH (Y.out.alloc Y.out.size (.cells zR 70))
  refine hKK.out _ _ (by exact(V.out _ b2.out)) (fun hHeld=>?_)
  clear hKK KK
  try simp only[Act.put,sA,sZ,sS]
  refine rd 11 rfl (fun KK hKK=>?_)
  go_simp
  generalize ac:w.heap.size+1=u at*
  have Z2:=yH (show(d.alloc (.cells zR 70)).drew.heap[u]? =some (.cells zR 70 (0,0))from by rw[←af];exact heap_alloc_new d (.cells zR 70))
  have al:(d.alloc (.cells zR 70)).drew.heap.size=u+1:=by
   show(d.alloc (.cells zR 70)).heap.size=u+1
   rw[World.size_alloc,af]
  have b2:=yH (show Below d.heap.size d (d.alloc (.cells zR 70)).drew from((Below.refl d.heap.size d).alloc (yR _) _).drew)
  generalize ao:(d.alloc (.cells zR 70)).drew=w2 at*
  ((refine(HR.out w2 (b1.out.trans (b2.out.mono (by omega)))).mono ?_);rintro e w3 ⟨F,f,rfl,hp,L,aa⟩;have D:=yH hp;have HN:=yH L;have b3:=yH (b2.out.trans (aa.mono b2.out.size));have M:=yH ((aa.block u (by omega)).trans Z2.out);clear hp L aa)
  try go_wp2_with fail
  refine hKK.out _ _ (by exact(V.out _ b3.out)) (fun hHeld=>?_)
  clear hKK KK
  have N:d.heap.size≤u:=by omega
  try simp only[Act.put,sA,sZ,sS]
  refine tq 12 20 rfl (fun W hSw=>by obtain⟨j,C,y⟩:=hSw;go_simp;try (with_reducible rfl)) ?_
  try simp only[Act.put,sA,sZ,sS]
  refine tq 13 33 rfl (fun W hSw=>by obtain⟨j,C,y⟩:=hSw;go_simp;try (with_reducible rfl)) ?_
  try simp only[Act.put,sA,sZ,sS]
  refine tq 14 34 rfl (fun W hSw=>by obtain⟨j,C,y⟩:=hSw;go_simp;try (with_reducible rfl)) ?_
  try simp only[Act.put,sA,sZ,sS]
  refine rd 16 rfl (fun KK hKK=>?_)
  split
  ·refine wp_store_row 70 (.tmp 6) (.tmp 33) rfl u (recL rs z B q (.slice F t f)).toArray rfl rfl 70 zR M.out (aAm _ _ _ _ _) rfl (by simp[Value.oneCell']) ?_
   have bF:=yH (below_setRow b3.out N (recL rs z B q (.slice F t f)).toArray)
   refine hKK.out _ _ (by exact(V.out _ bF.out)) (fun hHeld=>?_)
   clear hKK KK
   try simp only[Act.put,sA,sZ,sS]
   refine tq 17 7 rfl (fun W hSw=>by obtain⟨j,C,y⟩:=hSw;go_simp;try (with_reducible rfl)) ?_
   try simp only[Act.put,sA,sZ,sS]
   refine wpAnyH_done (by kernel_rfl) ?_ _
   refine NoPanic.normal ?_
   have R6:=yH (show Blk (w3.setRow u (recL rs z B q (.slice F t f)).toArray) u (recL rs z B q (.slice F t f)) 70 from setRow_heap _ _ _ _ _ (0,0) M.out)
   have J:=yH (show Prs (w3.setRow u (recL rs z B q (.slice F t f)).toArray) F I from by
    rcases Nat.eq_zero_or_pos I.length with G|G
    ·rw[List.eq_nil_of_length_eq_zero G]
     exact Prs.nil _ _
    ·exact D.out.keptB (by rw[setRow_size];exact yR _) fun b off e hb=>setRow_other _ _ _ _ (prs_off D.out M.out b off e G))
   have Z0:=yH ((bF.out.block w.heap.size (by omega)).trans Z1.out)
   have ag:w.heap.size<d.heap.size:=by omega
   generalize w3.setRow u (recL rs z B q (.slice F t f)).toArray=w6 at*
   clear HR V M D Y b2 b3
   go_wp2_with(first
    |((with_reducible apply aAb 35);refine wpList_load_row rfl 70 (.tmp 6) rfl u rfl 70 (recL rs z B q (.slice F t f)).toArray (0,0) _ R6.out Tryz.underlying70 rfl (aAm _ _ _ _ _) ?_)
    |((with_reducible apply aAa (.tmp 4) (.tmp 35));refine wpList_store_row rfl 70 (.tmp 4) (.tmp 35) rfl w.heap.size (recL rs z B q (.slice F t f)).toArray rfl rfl 70 zR Z0.out (aAm _ _ _ _ _) rfl (by simp[Value.oneCell']) ?_)
    |fail)
   refine bodyPost_ret (v:= .tuple #[.agg (recL rs z B q (.slice F t f)).toArray,.bool true]) (by exact aAr Tryz.results29 _ _ w.heap.size 70 _ (0,0) _ _ rfl rfl (setRow_heap _ _ _ _ _ (0,0) Z0.out) Tryz.underlying70 rfl (aAm _ _ _ _ _)) rfl ?_
   refine⟨F,f,rfl,?_,fun b off e=>by have h7:=HN.out b off e;have h8:d.drew.heap.size=d.heap.size:=rfl;omega,below_setRow (b1.out.trans (bF.out.mono (by omega))) (yR _) _⟩
   rcases Nat.eq_zero_or_pos I.length with G|G
   ·rw[List.eq_nil_of_length_eq_zero G]
    exact Prs.nil _ _
   ·exact J.out.keptB (by rw[setRow_size];exact yR _) fun b off e hb=>setRow_other _ _ _ _ (prs_off J.out Z0.out b off e G)
  ·next hno=>exact absurd (by rfl) hno
end Skc
namespace Zl
open Bytes8 Ga Gb Gf Gj Gm Ma Mb Mh Na Nc Nt Za Zb Zd Zg Va Wa Zh Zj Zk Rn Rr Pl8
open Go1 (hcode magicB)
def stH (m:Mk)(st:Int):HD:=HD.plus (Mk.head m st) (m.depth:Int)
def stL (m:Mk)(st:Int):List Int:=(stH m st).bytes 21++m.b.drop 272
theorem aHV (m:Mk)(st:Int)(i:Nat)(c:i<20):(stH m st).N i=if i=1 then(m.b.length:Int)-272 else m.h.N i:=aCL m i c
theorem aQw {m:Mk}(h:Img m){st:Int}(hs:0≤st∧st≤2):(stH m st).Ok 21:=by
 have k:=aOW h
 exact {cp:=k.cp,ic:=k.ic,st:=by show -9223372036854775808≤st∧st≤9223372036854775807;omega,I:=k.I,ta:=k.ta,ti:=k.ti,te:=k.te,N:=k.N}
theorem aLP {m:Mk}(h:Img m){st:Int}(hs:0≤st∧st≤2):(Mk.head m st).Ok 20:=by
 have k:=aHz h
 exact {cp:=k.cp,ic:=k.ic,st:=by show -9223372036854775808≤st∧st≤9223372036854775807;omega,I:=k.I,ta:=k.ta,ti:=k.ti,te:=k.te,N:=k.N}
theorem st_len {m:Mk}(h:Img m)(st:Int):(stL m st).length=m.b.length:=by
 have:=h.lens
 unfold stL
 rw[List.length_append,HD.bytes_len,List.length_drop]
 omega
theorem aEu {m:Mk}(h:Img m){st:Int}(hs:0≤st∧st≤2):Says (hdOf (stL m st)) (stH m st):=
 aOV (stH m st) (aQw h hs) (by show 0≤st∧st<256;omega) (m.b.drop 272)
theorem aNK {m:Mk}(h:Img m){st:Int}(hs:0≤st∧st≤2)(N:Int):fcode (stH m st) N=fcode (imgH m) N:=by
 have e: ∀i,(stH m st).N i=(imgH m).N i:=fun i=>rfl
 have b:stB (stH m st).st=stB (imgH m).st:=by
  show stB st=stB 1
  have:st=0∨st=1∨st=2:=by omega
  rcases this with h|h|h<;>subst h<;>rfl
 unfold fcode endV endB
 rw[b]
 rfl
theorem aIU {m:Mk}(h:Img m){st:Int}(hs:0≤st∧st≤2):hcode (stL m st) m.b.length=0:=by
 have c:=h.lens
 unfold hcode
 rw[if_neg (by omega),show magicB (stL m st)=true from aJx _ _ _,if_neg (by simp),(aEu h hs).fcode,aNK h hs,aKU h _ (by omega)]
theorem aOm {m:Mk}(h:Img m){st:Int}(hs:0≤st∧st≤2):endV (hdOf (stL m st))=(m.b.length:Int)∧endB (hdOf (stL m st))=true:=by
 have s:=aEu h hs
 have c:=(s.N 0 (by decide)).trans (aHV m st 0 (by decide))
 have d:=(s.N 1 (by decide)).trans (aHV m st 1 (by decide))
 obtain⟨f,i,g⟩:=h.lens
 rw[if_neg (by decide),h.hg.n0]at c
 rw[if_pos rfl]at d
 unfold endV endB
 rw[c,d]
 constructor
 ·split<;>omega
 ·simp;omega
theorem aNL {m:Mk}{n0:Nat}{l:List O}{hs:Nat→List Nat}{j:List Nat}{o:List (Nat×List Int)}(k:Kept m n0 l hs j o){st:Int}(p:0≤st∧st≤2):
 chase (hdOf (stL m st)) (stL m st) m.b.length ((hdOf (stL m st)).N 8) 14 2 (m.b.length+1) [] ((hdOf (stL m st)).N 11).toNat 0=(toI j,0)∧(hdOf (stL m st)).N 8=(n0:Int):=by
 have g:=k.good.img
 have s:=aEu g p
 have d:=st_len g st
 have i:=(s.N 0 (by decide)).trans (aHV m st 0 (by decide))
 rw[if_neg (by decide),g.hg.n0]at i
 have f:=(s.N 8 (by decide)).trans (aHV m st 8 (by decide))
 rw[if_neg (by decide),k.n8]at f
 have c:=(s.N 11 (by decide)).trans (aHV m st 11 (by decide))
 rw[if_neg (by decide),k.n11]at c
 refine⟨?_,f⟩
 rw[f,c,Int.toNat_natCast]
 have n:stL m st=(stH m st).bytes 21++enc l:=by unfold stL;rw[k.hold.rep.rep.eq]
 have q:=aLI (h:=hdOf (stL m st)) n (by rw[HD.bytes_len]) k.hold.rep.ok i k.hold.mn k.rise (fun x hx=>by have:=k.bd x hx;rw[d];omega) (n0:Int) 14 2 (m.b.length+1) 0 0 (Nat.zero_le _) (Nat.zero_le _) (by show((0:Nat):Int)≤_;omega) (fun _=>rfl) (fun h=>absurd h (by decide)) (Nat.zero_le _) (by rw[d];omega)
 rw[d]at q
 have e:m.main.getD 0 0=m.main.headD 0:=by cases m.main<;>rfl
 rw[e]at q
 refine Eq.trans q ?_
 unfold told
 rw[if_pos (by have:=k.len;omega),Int.toNat_natCast,List.take_of_length_le (by have:=k.len;omega)]
theorem aP9 {m:Mk}{rs:List RR}{n:List O}{hs:Nat→List Nat}{c:List Nat}{g:List (Nat×List Int)}(k:Kept m rs.length n hs c g)(q:Recs m rs g){st:Int}(t:0≤st∧st≤2)(i:Nat)(f:i<rs.length):
 rcode (hdOf (stL m st)) (stL m st) m.b.length (c.getD i 0)=0∧(recP (hdOf (stL m st)) (stL m st) m.b.length (c.getD i 0)).s=m.h.N 9-rs.length+i+1∧(recP (hdOf (stL m st)) (stL m st) m.b.length (c.getD i 0)).r=rs[i].2.1∧(recP (hdOf (stL m st)) (stL m st) m.b.length (c.getD i 0)).m=rs[i].2.2.1∧(∀j,j<16→(recP (hdOf (stL m st)) (stL m st) m.b.length (c.getD i 0)).K j=rs[i].2.2.2 j)∧(∀x,x∈(recP (hdOf (stL m st)) (stL m st) m.b.length (c.getD i 0)).pl↔x∈listL rs[i].1):=by
 have d:=k.good.img
 have s:=aEu d t
 have o:=st_len d st
 have l:=(s.N 0 (by decide)).trans (aHV m st 0 (by decide))
 rw[if_neg (by decide),d.hg.n0]at l
 have p:stL m st=(stH m st).bytes 21++enc n:=by unfold stL;rw[k.hold.rep.rep.eq]
 have r:=aNI k q (H:=hdOf (stL m st)) p (by rw[HD.bytes_len]) l s.ic (fun i f=>s.I i (by omega)) i f
 rw[o]at r
 exact r
end Zl
namespace Skd
open Bytes8 Blk8 Own8 OwnE Rows2 Ga Gb Ma Na Np Nr Ns Nt Rc Rn Rr Va Pr8 Jb Ska Skc
open Yg (NewIn aAr)
def Look (w:World)(gx:Nat)(n:Int)(c:Nat)(W:World):Prop:=Below w.heap.size w W∧Blk W w.heap.size [.pointer (some ⟨gx,0,none⟩)] 63∧Blk W (w.heap.size+1) [.int .u64 n] 27∧Blk W (w.heap.size+2) [.int .i64 (c:Int)] 3
theorem Look.below {w:World}{f:Nat}{n:Int}{c:Nat}{W d:World}(h:Look w f n c W)(b:Below W.heap.size W d):Look w f n c d:=
 ⟨h.1.trans (b.mono h.1.size),h.2.1.below b h.2.1.lt,h.2.2.1.below b h.2.2.1.lt,h.2.2.2.below b h.2.2.2.lt⟩
theorem Look.one {w:World}{b:Nat}{n:Int}{c:Nat}{W:World}(h:Look w b n c W):Look w b n (c+1) (W.setCell ⟨w.heap.size+2,0,none⟩ (.int .i64 ((c:Int)+1))):=by
 obtain⟨g,f,i,d⟩:=h
 refine⟨g.setCell (p:=⟨w.heap.size+2,0,none⟩) (by show _≤w.heap.size+2;omega) _,?_,?_,?_⟩
 ·exact f.far (p:=⟨w.heap.size+2,0,none⟩) (by show w.heap.size≠w.heap.size+2;omega) _
 ·exact i.far (p:=⟨w.heap.size+2,0,none⟩) (by show w.heap.size+1≠w.heap.size+2;omega) _
 ·exact d.set_ 0 _
attribute [local irreducible] HD.cells wpList Code.wp
theorem aNM {w:World}{x m:Nat}{R:Nat→RecP}(E:Idx w x m R)(n:Int)(c:Nat)(M:c≤1000)(W:World)(h:Look w x n c W)(k:Nat)(I:k<m):
 Calls Tryz.prog 72 #[.int .i64 (k:Int),.pointer (some ⟨w.heap.size+2,0,none⟩),.pointer (some ⟨w.heap.size,0,none⟩),.pointer (some ⟨w.heap.size+1,0,none⟩)] W fun e W'=>e= .returned (.bool (decide (n≤(R k).s)))∧Look w x n (c+1) W'∧W.heap.size≤W'.heap.size:=by
 have A:=yH fun(V:World) (hV:Below w.heap.size w V)=>aHU (E.below hV) k I
 have y:=h.one
 have b:=yH y
 have L:=h.2.2.2.cell (i:=0) rfl
 have G:=h.2.2.2.frozen 0
 have B:IntKind.i64.wrap ((c:Int)+1)=(c:Int)+1:=by rw[IntKind.wrap_i64];omega
 have J:=y.2.1.cell (i:=0) rfl
 have o:(W.setCell ⟨w.heap.size+2,0,none⟩ (.int .i64 ((c:Int)+1))).heap.size=W.heap.size:=by simp
 have f:=yH o
 unfold ITell at A
 clear E h y o
 generalize R k=r at*
 obtain⟨rs,q,t,j,l,H⟩:=r
 dsimp only at*
 go_enter Tryz.func72,Tryz.ntmps72
 go_upto_region 2 with fail
 generalize W.setCell ⟨w.heap.size+2,0,none⟩ (.int .i64 ((c:Int)+1))=X at*
 clear L G B
 go_upto_region 3 with(first
  |(go_at_call 29;(refine(A.out _ b.out.1).mono ?_);rintro e w2 ⟨F,p,rfl,_,_,g⟩;have u:=yH g;clear g)
  |((with_reducible apply aAa (.tmp 6) (.tmp 14));refine wpList_store_row rfl 70 (.tmp 6) (.tmp 14) rfl w2.heap.size (recL rs q t j (.slice F l p)).toArray rfl rfl 70 zR (heap_alloc_new w2 _) (aAm _ _ _ _ _) rfl (by simp[Value.oneCell']) ?_)
  |fail)
 have D:=yH (show Blk ((w2.alloc (.cells zR 70)).setRow w2.heap.size (recL rs q t j (.slice F l p)).toArray) w2.heap.size (recL rs q t j (.slice F l p)) 70 from setRow_heap _ _ _ _ _ (0,0) (heap_alloc_new w2 _))
 have z:=yH (show Below w2.heap.size w2 ((w2.alloc (.cells zR 70)).setRow w2.heap.size (recL rs q t j (.slice F l p)).toArray)from below_setRow ((Below.refl _ _).alloc (yR _) _) (yR _) _)
 generalize (w2.alloc (.cells zR 70)).setRow w2.heap.size (recL rs q t j (.slice F l p)).toArray=w3 at*
 have C:=yH (b.out.below (u.out.trans (z.out.mono u.out.size)))
 have d:=Nat.le_trans u.out.size z.out.size
 rw[f.out]at d
 have Z:=D.out.cell (i:=0) rfl
 have Y:=C.out.2.2.1.cell (i:=0) rfl
 clear A b f u z J D
 generalize w2.heap.size=N at*
 go_wp2_with fail
 go_ret
 exact⟨rfl,C.out,d⟩
def natI:Value→Nat
 | .int _ z=>z.toNat
 |_=>0
theorem aJS {w:World}{C m:Nat}{R:Nat→RecP}(ix:Idx w C m R)(n:Int)(w1:World)(h:Look w C n 0 w1):
 Calls Tryz.prog 71 #[.int .i64 (m:Int),.func (.func 72) #[] #[.pointer (some ⟨w.heap.size+2,0,none⟩),.pointer (some ⟨w.heap.size,0,none⟩),.pointer (some ⟨w.heap.size+1,0,none⟩)]] w1 fun e W'=> ∃r c:Nat,e= .returned (.int .i64 (r:Int))∧IsFst (fun k=>decide (n≤(R k).s)) m r∧(∀D,m<2^D→c≤D)∧Look w C n c W'∧w1.heap.size≤W'.heap.size:=by
 obtain⟨hm,_,A,_⟩:=ix.facts
 have z:=yH fun(c:Nat) (hc:c≤1000) (W:World) (h:Look w C n c W) (k:Nat) (hk:k<m)=>aNM ix n c hc W h k hk
 have M:=yH (show ∀a b,a≤b→b<m→(fun k=>decide (n≤(R k).s)) a=true→(fun k=>decide (n≤(R k).s)) b=true from fun a b hab hb h=>by
  have h':n≤(R a).s:=by simpa using h
  rcases Nat.eq_or_lt_of_le hab with e|e
  ·rw[←e];exact h
  ·have:=A a b e hb
   show decide (n≤(R b).s)=true
   simp
   omega)
 have HL:=yH h
 have G:=yH (Halves.start (fun k=>decide (n≤(R k).s)) m)
 have L:=yH (yR w1.heap.size)
 clear ix h A
 generalize o:(fun k=>decide (n≤(R k).s))=p at*
 have B: ∀k,decide (n≤(R k).s)=p k:=fun k=>by rw[←o]
 simp only[B]at z
 clear o B
 go_enter Tryz.func71,Tryz.ntmps71
 go_wp2_with fail
 go_loopw [5,6] (fun iv jv wr=> ∃i j c:Nat,iv= .int .i64 (i:Int)∧jv= .int .i64 (j:Int)∧Hid (Halves p m i j c)∧Hid (Look w C n c wr)∧Hid (w1.heap.size≤wr.heap.size)) (fun iv jv _=>natI jv-natI iv)
 case atStart=>exact⟨0,m,0,rfl,rfl,G,HL,L⟩
 case round=>
  clear HL G L
  obtain⟨i,j,c,rfl,rfl,x,u,t⟩:=hrel
  have ab:=x.out.1
  have V:=x.out.2.1
  have J:=x.out.few hm
  by_cases y:i<j
  ·have Y:decide ((i:Int)<(j:Int))=true:=by simp;omega
   have ad:IntKind.i64.wrap ((i:Int)+(j:Int))=((i+j:Nat):Int):=by rw[IntKind.wrap_i64];omega
   obtain⟨q,E⟩: ∃q,(i+j)/2=q:=⟨_,rfl⟩
   have hq:((i:Int)+(j:Int))/2=(q:Int):=by omega
   have aa:q<m:=by omega
   have H:i≤q:=by omega
   have F:q<j:=by omega
   have ac:IntKind.i64.wrap ((q:Int)+1)=((q+1:Nat):Int):=by rw[IntKind.wrap_i64];omega
   have N:=yH (z.out c (by omega) wr u.out q aa)
   have l:=yH (fun h=>x.out.lo (M.out) y h)
   have g:=yH (fun h=>x.out.hi y h)
   rw[E]at l g
   have HM:=yH (And.intro H F)
   clear E z M x u H F ab V J
   cases o:p q with
   |true=>
    rw[o]at N
    have X:=yH (g.out o)
    clear o l g
    go_wp2_with(first
     |(go_at_call 72;(refine N.out.mono ?_);rintro e w2 ⟨rfl,f,d⟩;have Z:=yH f;have E2:=yH (Nat.le_trans t.out d);clear f d)
     |fail)
    go_roundw
    case rel=>exact⟨i,q,c+1,rfl,rfl,X,Z,E2⟩
    case measure=>simp[natI];have:=HM.out;omega
   |false=>
    rw[o]at N
    have X:=yH (l.out o)
    clear o l g
    go_wp2_with(first
     |(go_at_call 72;(refine N.out.mono ?_);rintro e w2 ⟨rfl,f,d⟩;have Z:=yH f;have E2:=yH (Nat.le_trans t.out d);clear f d)
     |fail)
    go_roundw
    case rel=>exact⟨q+1,j,c+1,rfl,rfl,X,Z,E2⟩
    case measure=>simp[natI];have:=HM.out;omega
  ·have Y:decide ((i:Int)<(j:Int))=false:=by simp;omega
   obtain⟨h1,h2⟩:=x.out.stop y
   have I:=yH (And.intro h1 h2)
   clear h1 h2
   go_wp2_with fail
   go_ret
   exact⟨i,c,rfl,I.out.1,I.out.2,u.out,t.out⟩
theorem Look.start (w:World)(b:Nat)(n:Int):Look w b n 0 (((w.alloc (.cells #[.pointer (some ⟨b,0,none⟩)] 63)).alloc (.cells #[.int .u64 n] 27)).alloc (.cells #[.int .i64 0] 3)):=by
 have d:(w.alloc (.cells #[.pointer (some ⟨b,0,none⟩)] 63)).heap.size=w.heap.size+1:=by simp
 have c:((w.alloc (.cells #[.pointer (some ⟨b,0,none⟩)] 63)).alloc (.cells #[.int .u64 n] 27)).heap.size=w.heap.size+2:=by simp
 refine⟨(((Below.refl w.heap.size w).alloc (yR _) _).alloc (by omega) _).alloc (by omega) _,?_,?_,?_⟩
 ·exact((Blk.new w [.pointer (some ⟨b,0,none⟩)] 63).alloc _).alloc _
 ·exact(Blk.new_at _ [.int .u64 n] 27 _ d).alloc _
 ·exact Blk.new_at _ [.int .i64 0] 3 _ c
theorem aHW {w:World}{b m:Nat}{R:Nat→RecP}(x:Idx w b m R)(n:Int):
 Calls Tryz.prog 30 #[.pointer (some ⟨b,0,none⟩),.int .u64 n] w fun e w'=> ∃r c:Nat,e= .returned (.tuple #[.int .i64 (r:Int),.int .i64 (c:Int)])∧IsFst (fun k=>decide (n≤(R k).s)) m r∧(∀D,m<2^D→c≤D)∧Below w.heap.size w w':=by
 have t:=yH (Look.start w b n)
 have d:=yH fun(W:World) (h:Look w b n 0 W)=>aJS x n W h
 have C:=yH fun(V:World) (hV:Below w.heap.size w V)=>show ∃q o,V.cell? ⟨b,1,none⟩=some (.slice q m o)from by
  obtain⟨gf,M,h,A,E,c,l,P,n,cp,out,cd,q,o,G,Y,N,X,rfl⟩:=x.below hV
  exact⟨q,o,G.cell (i:=1) rfl⟩
 clear x
 obtain⟨q,o,F⟩:=C.out _ t.out.1
 have J:=t.out.2.1.cell (i:=0) rfl
 generalize (fun k=>decide (n≤(R k).s))=p at*
 have H:(w.alloc (.cells #[.pointer (some ⟨b,0,none⟩)] 63)).heap.size=w.heap.size+1:=by simp
 have L:((w.alloc (.cells #[.pointer (some ⟨b,0,none⟩)] 63)).alloc (.cells #[.int .u64 n] 27)).heap.size=w.heap.size+2:=by simp
 clear C
 go_enter Tryz.func30,Tryz.ntmps30
 go_upto_region 2 with fail
 have g:=yH (d.out _ t.out)
 clear d H L
 generalize (((w.alloc (.cells #[.pointer (some ⟨b,0,none⟩)] 63)).alloc (.cells #[.int .u64 n] 27)).alloc (.cells #[.int .i64 0] 3))=w3 at*
 go_upto_region 3 with(first
  |(go_at_call 71;(refine g.out.mono ?_);rintro e w4 ⟨r,c,rfl,y,z,j,f⟩;have B:=yH (And.intro y z);have u:=yH j;clear y z j f)
  |fail)
 have Z:=u.out.2.2.2.cell (i:=0) rfl
 clear t J F g
 go_quiet (fail)
 have I:=yH (u.out.1.trans ((below_drewN (Below.refl w4.heap.size w4) nq).mono u.out.1.size))
 go_wp2_with fail
 go_ret2
 exact⟨r,c,rfl,B.out.1,B.out.2,I.out⟩
end Skd
namespace Jf
open Ga Gb Np Rr
def rowP (b0:Int)(i:Nat)(r:Zj.RR):RecP:=⟨b0+i+1,r.2.1,r.2.2.1,r.2.2.2,r.1.length,r.1⟩
structure SameP (p q:RecP):Prop where
 s:p.s=q.s
 r:p.r=q.r
 m:p.m=q.m
 K: ∀j,j<16→p.K j=q.K j
 pl: ∀y,y∈p.pl↔y∈q.pl
attribute [local irreducible] HD.cells wpList Code.wp
end Jf
namespace Jg
open Ga Gb Np
open Ri (ecode9)
open Go1 (hcode)
attribute [local irreducible] HD.cells wpList Code.wp
end Jg
namespace Ji
open Ga Gb Gj Ma Mb Na Nc Np Nt Nu Va Zg Zh Zj Zl Rn Rr Pr8 Ps8 Pl8 Ja Jd Je Jf
theorem list_mem {L:List PR}(h:listE L=0)(x:PR):x∈listL L↔x∈L:=by
 unfold listL
 rw[if_pos h,aBb,aC0]
theorem aLQ (l:List Nat)(x:Nat):((toI l).getD x 0).toNat=l.getD x 0:=by
 rw[List.getD_eq_getElem?_getD,List.getD_eq_getElem?_getD,List.getElem?_map]
 cases l[x]? <;>rfl
abbrev dP:RecP:=⟨0,0,0,fun _=>0,0,[]⟩
theorem aGQ {h:HD}{l:List Int}{E:Nat}{out:List Int}{b:Int}(d:0≤b)(n:Nat)(c: ∀x,x<n→jC h l E out x=0∧(jR h l E out x).s=b+x+1):goodRecs h l E out n=(List.range n).map fun x=>jR h l E out x:=by
 unfold goodRecs goodL
 rw[aJ4 d n c]
theorem aLR {m:Mk}{rs:List RR}{u:List Za.O}{hs:Nat→List Nat}{c:List Nat}{j:List (Nat×List Int)}(k:Kept m rs.length u hs c j)(q:Recs m rs j){st:Int}(p:0≤st∧st≤2){b0:Int}(A:m.h.N 9=b0+(rs.length:Int)):
 (goodRecs (hdOf (stL m st)) (stL m st) m.b.length (toI c) c.length).length=rs.length∧ ∀i (hi:i<rs.length),SameP ((goodRecs (hdOf (stL m st)) (stL m st) m.b.length (toI c) c.length).getD i dP) (rowP b0 i rs[i]):=by
 have B:=q.base
 have f:=fun i hi=>aP9 k q p i hi
 rw[k.len]
 have d:=aGQ (h:=hdOf (stL m st)) (l:=stL m st) (E:=m.b.length) (out:=toI c) (b:=b0) (by omega) rs.length (fun x hx=>by
  obtain⟨n,g,_⟩:=f x hx
  show rcode _ _ _ ((toI c).getD x 0).toNat=0∧(recP _ _ _ ((toI c).getD x 0).toNat).s=_
  rw[aLQ]
  exact⟨n,by rw[g];omega⟩)
 rw[d]
 refine⟨by rw[List.length_map,List.length_range],fun i hi=>?_⟩
 rw[List.getD_eq_getElem?_getD,List.getElem?_map,List.getElem?_range hi]
 obtain⟨n,g,r,t,o,z⟩:=f i hi
 show SameP (recP _ _ _ ((toI c).getD i 0).toNat) _
 rw[aLQ]
 exact⟨by rw[g];show _=b0+(i:Int)+1;omega,r,t,o,fun y=>(z y).trans (list_mem (q.ok _ (List.getElem_mem hi)).list y)⟩
end Ji
end Go.Proofs.YtlelnfokffflnaaGreat
