/-
  Texts beneath the proof.
-/
import Derived.Test.YtlelnfokffflnaaGreatQl42
set_option linter.unusedVariables false
set_option linter.unusedSimpArgs false
set_option maxRecDepth 100000
set_option maxHeartbeats 8000000
open Go.ChangeShapes Go.WideShapes Go.ChangeAt Go.RowKit
namespace Go.Proofs.YtlelnfokffflnaaGreat
namespace Skc
open Bytes8 Blk8 Own8 OwnE Rows2 Ga Gb Ma Na Np Nr Ns Nt Rc Rn Rr Va Wa Pr8 Ja Jb Jc Jd Ska
open Jj (prs_off)
open Go1 (hcode)
open Yg (NewIn aAr)
def rK (h:HD)(l:List Int)(E:Nat)(out:List Int)(n:Nat):Nat→RecP:=fun k=>jR h l E out ((goodL h l E out n).getD k 0)
def Idx (w:World)(gx m:Nat)(R:Nat→RecP):Prop:= ∃(gf gv:Nat) (h:HD) (A:Option Addr) (E c:Nat) (l:List Int) (P:Option Addr) (n cp:Nat) (out:List Int) (cd:Int) (GA:Option Addr) (mc:Nat),
 Blk w gx [.pointer (some ⟨gf,0,none⟩),.slice GA m mc] 160∧FileAt w gf gv h A E c l P n cp out cd∧InInts .i64 w GA m (fun i=>(((goodL h l E out n).getD i 0:Nat):Int))∧(goodL h l E out n).length=m∧R=rK h l E out n
theorem Idx.below {w w':World}{b m:Nat}{R:Nat→RecP}(x:Idx w b m R)(a:Below w.heap.size w w'):Idx w' b m R:=by
 obtain⟨gf,i,h,A,E,c,l,P,n,cp,out,cd,j,k,d,e,o,f,g⟩:=x
 exact⟨gf,i,h,A,E,c,l,P,n,cp,out,cd,j,k,d.below a d.lt,e.below a,o.below a,f,g⟩
theorem Idx.facts {w:World}{g m:Nat}{R:Nat→RecP}(x:Idx w g m R):m≤800000∧(∀k,(R k).Ok)∧(∀a b,a<b→b<m→(R a).s<(R b).s)∧g<w.heap.size:=by
 obtain⟨gf,r,h,A,E,c,l,P,n,cp,out,cd,v,y,o,f,z,h4,rfl⟩:=x
 obtain⟨u,q,p,i⟩:=aAR (jC h l E out) (fun x=>(jR h l E out x).s) n
 have j:(goodR (jC h l E out) (fun x=>(jR h l E out x).s) n).1.length=m:=h4
 have t:=f.nb
 refine⟨by omega,fun k=>aLp h E _ f.view.by_.1,fun a b hab hb=>?_,o.lt⟩
 have d:a<(goodR (jC h l E out) (fun x=>(jR h l E out x).s) n).1.length:=by omega
 have e:b<(goodR (jC h l E out) (fun x=>(jR h l E out x).s) n).1.length:=by omega
 have k:=(List.pairwise_iff_getElem.1 i) a b d e hab
 show(jR h l E out ((goodR (jC h l E out) (fun x=>(jR h l E out x).s) n).1.getD a 0)).s<(jR h l E out ((goodR (jC h l E out) (fun x=>(jR h l E out x).s) n).1.getD b 0)).s
 rw[List.getD_eq_getElem?_getD,List.getElem?_eq_getElem d,List.getD_eq_getElem?_getD,List.getElem?_eq_getElem e]
 exact k
theorem aNJ {w:World}{b m c:Nat}{A:Option Addr}{L:List Nat}(h:OwnE 3 1 w b A m c (ints L))(k:L.length=m)(d: ∀x∈L,x≤1000000):InInts .i64 w A m (fun i=>((L.getD i 0:Nat):Int)):=fun i hi=>by
 obtain⟨g,e,_,a,j⟩:=OwnE.cell h (i:=i) (by rw[List.length_map];omega)
 have f:L.getD i 0=L[i]:=by simp[List.getElem?_eq_getElem (show i<L.length by omega)]
 refine⟨g,0,e,a,?_,?_⟩
 ·rw[Nat.zero_add]
  refine j.trans ?_
  rw[List.getElem?_map,List.getElem?_eq_getElem (by omega)]
  simp[List.getElem?_eq_getElem (show i<L.length by omega)]
 ·have:=d L[i] (List.getElem_mem _)
  show(Lit.int .i64 ((L.getD i 0:Nat):Int)).wf=true
  rw[f]
  simp[Lit.wf,IntKind.min,IntKind.max,IntKind.signed,IntKind.bits]
  omega
attribute [local irreducible] HD.cells wpList Code.wp
theorem new_any {w:World}{gf q:Nat}{h:HD}{A:Option Addr}{E c:Nat}{l:List Int}{P:Option Addr}{n cp:Nat}{out:List Int}{cd:Int}(f:FileAt w gf q h A E c l P n cp out cd):
 Calls Tryz.prog 61 #[.pointer (some ⟨gf,0,none⟩)] w fun e w'=> ∃gx,e= .returned (.pointer (some ⟨gx,0,none⟩))∧Idx w' gx (goodL h l E out n).length (rK h l E out n)∧Below w.heap.size w w':=by
 have y:=yH (aNE f)
 have z:=yH f
 have D:=f.nb
 obtain⟨t,u,_⟩:=aAR (jC h l E out) (fun x=>(jR h l E out x).s) n
 have r:=yH (show ∀x∈goodL h l E out n,x≤1000000 from fun x hx=>by have:=(t x hx).1;omega)
 have C:=yH fun(W:World) (b d:_) (m a:Nat) (ho:OwnE 3 1 W b d m a (ints (goodL h l E out n))) (hl:(goodL h l E out n).length=m)=>aNJ ho hl r.out
 have B:=yH fun(W:World) (gx m mc:Nat) (GA:Option Addr) (h1:Blk W gx [.pointer (some ⟨gf,0,none⟩),.slice GA m mc] 160) (h2:FileAt W gf q h A E c l P n cp out cd) (h3:InInts .i64 W GA m (fun i=>(((goodL h l E out n).getD i 0:Nat):Int))) (h4:(goodL h l E out n).length=m)=>show Idx W gx m (rK h l E out n)from⟨gf,q,h,A,E,c,l,P,n,cp,out,cd,GA,mc,h1,h2,h3,h4,rfl⟩
 clear f t u r
 generalize rK h l E out n=R at*
 generalize goodL h l E out n=L at*
 go_enter Tryz.func61,Tryz.ntmps61
 go_wp2_with(first
  |(go_at_call 118;(refine y.out.mono ?_);rintro e w1 ⟨d,m,a,rfl,j,k,g⟩;have v:=yH j;have p:=yH k;have o:=yH g;clear j k g)
  |fail)
 have b2:=yH ((Below.refl w1.heap.size w1).alloc (yR _) (.cells #[.pointer (some ⟨gf,0,none⟩),.slice d m a] 160))
 go_ret
 refine⟨w1.heap.size,rfl,?_,o.out.trans (b2.out.mono o.out.size)⟩
 rw[p.out]
 exact B.out _ _ m a d (Blk.new w1 [.pointer (some ⟨gf,0,none⟩),.slice d m a] _) ((z.out.below o.out).below b2.out) (C.out _ _ d m a (v.out.kept b2.out (yR _)) p.out) p.out
theorem aFN {w:World}{a m:Nat}{R:Nat→RecP}(x:Idx w a m R):Calls Tryz.prog 28 #[.pointer (some ⟨a,0,none⟩)] w fun e w'=>e= .returned (.int .i64 (m:Int))∧w=w':=by
 obtain⟨gf,j,h,A,E,c,l,P,n,cp,out,cd,k,p,b,d,g,f,rfl⟩:=x
 have o:=b.cell (i:=1) rfl
 clear b d g f
 go_enter Tryz.func28,Tryz.ntmps28
 go_wp2
 go_ret
 exact⟨rfl,rfl⟩
def ITell (B:Nat)(p:RecP)(w:World)(e:Ending)(w':World):Prop:= ∃F c,e= .returned (.tuple #[p.v F c,.bool true])∧Prs w' F p.pl∧NewIn B F∧Below w.heap.size w w'
theorem aHU {w:World}{G m:Nat}{R:Nat→RecP}(ix:Idx w G m R)(k:Nat)(hk:k<m):Calls Tryz.prog 29 #[.pointer (some ⟨G,0,none⟩),.int .i64 (k:Int)] w (ITell w.heap.size (R k) w):=by
 obtain⟨gf,gv,h,A,E,c,l,P,n,cp,out,cd,GA,mc,h1,h2,h3,h4,rfl⟩:=ix
 have b1:=yH ((Below.refl w.heap.size w).alloc (yR _) (.cells zR 70))
 have Z1:=yH (heap_alloc_new w (.cells zR 70))
 have ad:(w.alloc (.cells zR 70)).heap.size=w.heap.size+1:=by simp
 have d1:decide ((k:Int)<0)=false:=by simp
 have d2:decide ((m:Int)≤(k:Int))=false:=by simp;omega
 have ak:(k:Int)<(m:Int):=by omega
 obtain⟨d,_,_,_⟩:=aAR (jC h l E out) (fun x=>(jR h l E out x).s) n
 have ae:(goodL h l E out n).getD k 0∈goodL h l E out n:=by
  rw[List.getD_eq_getElem?_getD,List.getElem?_eq_getElem (by omega)]
  exact List.getElem_mem _
 have hx:=d _ ae
 obtain⟨M,Y,rfl,aj,ab,_⟩:=h3 k hk
 dsimp only at ab
 have Z:=yH fun(W:World) (hW:Below w.heap.size w W)=>aOl (h2.below hW) ((goodL h l E out n).getD k 0) hx.1
 have ag:rcode h l E (out.getD ((goodL h l E out n).getD k 0) 0).toNat=0:=hx.2.1
 rw[ag]at Z
 have af:recP h l E (out.getD ((goodL h l E out n).getD k 0) 0).toNat=j h l E out n k:=rfl
 rw[af]at Z
 have k0:(w.alloc (.cells zR 70)).cell? ⟨G,0,none⟩=some (.pointer (some ⟨gf,0,none⟩)):=(b1.out.cell (p:=⟨G,0,none⟩) h1.lt).trans (h1.cell (i:=0) rfl)
 have k1:(w.alloc (.cells zR 70)).cell? ⟨G,1,none⟩=some (.slice (some ⟨M,Y,none⟩) m mc):=(b1.out.cell (p:=⟨G,1,none⟩) h1.lt).trans (h1.cell (i:=1) rfl)
 have kP:(w.alloc (.cells zR 70)).cell? ⟨M,Y+k,none⟩=some (.int .i64 (((goodL h l E out n).getD k 0:Nat):Int)):=(b1.out.cell (p:=⟨M,Y+k,none⟩) aj).trans ab
 have an:=h1.lt
 unfold TellRN at Z
 clear h1 h2 h3 h4 ag af ae hx d ab
 generalize j h l E out n k=r at*
 generalize (goodL h l E out n).getD k 0=x at*
 obtain⟨rs,t,z,j,B,H⟩:=r
 dsimp only at*
 go_enter Tryz.func29,Tryz.ntmps29
 go_upto_region 3 with fail
 generalize ao:w.alloc (.cells zR 70)=a at*
 have N:=yH fun(W:World) (hW:Below a.heap.size a W)=>show W.cell? ⟨G,0,none⟩=some (.pointer (some ⟨gf,0,none⟩))∧W.cell? ⟨G,1,none⟩=some (.slice (some ⟨M,Y,none⟩) m mc)∧W.cell? ⟨M,Y+k,none⟩=some (.int .i64 (x:Int))from
  ⟨(hW.cell (p:=⟨G,0,none⟩) (by show G<_;omega)).trans k0,(hW.cell (p:=⟨G,1,none⟩) (by show G<_;omega)).trans k1,(hW.cell (p:=⟨M,Y+k,none⟩) (by show M<_;omega)).trans kP⟩
 have X:=yH (show Below a.heap.size a a.drew from(Below.refl a.heap.size a).drew)
 clear k0 k1 kP
 refine wp_region_noPanic ?_
 refine wp_region_held_drew (S:=fun W:World=>W.cell? ⟨G,0,none⟩=some (.pointer (some ⟨gf,0,none⟩))∧W.cell? ⟨G,1,none⟩=some (.slice (some ⟨M,Y,none⟩) m mc)∧W.cell? ⟨M,Y+k,none⟩=some (.int .i64 (x:Int))) (by kernel_rfl) (by exact N.out _ X.out) (fun hHeld=>?_)
 refine tq 0 21 rfl (fun W hSw=>by obtain⟨d,q,y⟩:=hSw;go_simp;try (with_reducible rfl)) ?_
 try simp only[Act.put,sA,sZ,sS]
 refine tq 1 22 rfl (fun W hSw=>by obtain⟨d,q,y⟩:=hSw;go_simp;try (with_reducible rfl)) ?_
 try simp only[Act.put,sA,sZ,sS]
 refine tq 2 23 rfl (fun W hSw=>by obtain⟨d,q,y⟩:=hSw;go_simp;try (with_reducible rfl)) ?_
 try simp only[Act.put,sA,sZ,sS]
 refine tq 3 24 rfl (fun W hSw=>by obtain⟨d,q,y⟩:=hSw;go_simp;try (with_reducible rfl)) ?_
 try simp only[Act.put,sA,sZ,sS]
 refine tq 4 25 rfl (fun W hSw=>by obtain⟨d,q,y⟩:=hSw;go_simp;try (with_reducible rfl)) ?_
 try simp only[Act.put,sA,sZ,sS]
 refine tq 5 26 rfl (fun W hSw=>by obtain⟨d,q,y⟩:=hSw;go_simp;try (with_reducible rfl)) ?_
 try simp only[Act.put,sA,sZ,sS]
 refine tq 6 27 rfl (fun W hSw=>by obtain⟨d,q,y⟩:=hSw;go_simp;try (with_reducible rfl)) ?_
 try simp only[Act.put,sA,sZ,sS]
 refine tq 7 28 rfl (fun W hSw=>by obtain⟨d,q,y⟩:=hSw;go_simp;try (with_reducible rfl)) ?_
 try simp only[Act.put,sA,sZ,sS]
 refine tq 8 29 rfl (fun W hSw=>by obtain⟨d,q,y⟩:=hSw;go_simp;try (with_reducible rfl)) ?_
 try simp only[Act.put,sA,sZ,sS]
 refine tq 9 30 rfl (fun W hSw=>by obtain⟨d,q,y⟩:=hSw;go_simp;try (with_reducible rfl)) ?_
 try simp only[Act.put,sA,sZ,sS]
 refine tq 10 31 rfl (fun W hSw=>by obtain⟨d,q,y⟩:=hSw;go_simp;try (with_reducible rfl)) ?_
 try simp only[Act.put,sA,sZ,sS]
 refine wpAnyH_ready (rs:=[11,15]) (by kernel_rfl) (by simp) ?_
 refine AllReadyH.cons (o:=⟨some 32,_,_,_,_,_⟩) rfl (fun KK hKK=>?_) (AllReadyH.cons (o:=⟨some 6,_,_,_,_,_⟩) rfl (fun KK hKK=>?_) AllReadyH.nil)
 ·go_simp
  ((refine(Z.out _ (b1.out.trans (X.out.mono (by omega)))).mono ?_);rintro e w2 ⟨F,f,rfl,hp,I,ah⟩;have HP:=yH hp;have HN:=yH I;have b2:=yH (X.out.trans (ah.mono X.out.size));clear hp I ah)
  try go_wp2_with fail
  refine hKK.out _ _ (by exact(N.out _ b2.out)) (fun hHeld=>?_)
  clear hKK KK
  try simp only[Act.put,sA,sZ,sS]
  refine tq 12 20 rfl (fun W hSw=>by obtain⟨d,q,y⟩:=hSw;go_simp;try (with_reducible rfl)) ?_
  try simp only[Act.put,sA,sZ,sS]
  refine tq 13 33 rfl (fun W hSw=>by obtain⟨d,q,y⟩:=hSw;go_simp;try (with_reducible rfl)) ?_
  try simp only[Act.put,sA,sZ,sS]
  refine tq 14 34 rfl (fun W hSw=>by obtain⟨d,q,y⟩:=hSw;go_simp;try (with_reducible rfl)) ?_
  try simp only[Act.put,sA,sZ,sS]
  refine rd 15 rfl (fun KK hKK=>?_)
  go_simp
  have b3:=yH (b2.out.alloc b2.out.size (.cells zR 70))
  refine hKK.out _ _ (by exact(N.out _ b3.out)) (fun hHeld=>?_)
  clear hKK KK
  try simp only[Act.put,sA,sZ,sS]
  obtain⟨u,ai⟩: ∃g,w2.heap.size=g:=⟨_,rfl⟩
  have L:=yH (heap_alloc_new w2 (.cells zR 70))
  have V:=b2.out.size
  have D:=yH (HP.out.below ((Below.refl w2.heap.size w2).alloc (yR _) (.cells zR 70)))
  generalize w2.alloc (.cells zR 70)=w3 at*
  rw[ai]at L V⊢
  refine rd 16 rfl (fun KK hKK=>?_)
  split
  ·refine wp_store_row 70 (.tmp 6) (.tmp 33) rfl u (recL rs t z j (.slice F B f)).toArray rfl rfl 70 zR L.out (aAm _ _ _ _ _) rfl (by simp[Value.oneCell']) ?_
   have bF:=yH (below_setRow b3.out V (recL rs t z j (.slice F B f)).toArray)
   refine hKK.out _ _ (by exact(N.out _ bF.out)) (fun hHeld=>?_)
   clear hKK KK
   try simp only[Act.put,sA,sZ,sS]
   refine tq 17 7 rfl (fun W hSw=>by obtain⟨d,q,y⟩:=hSw;go_simp;try (with_reducible rfl)) ?_
   try simp only[Act.put,sA,sZ,sS]
   refine wpAnyH_done (by kernel_rfl) ?_ _
   refine NoPanic.normal ?_
   have R6:=yH (show Blk (w3.setRow u (recL rs t z j (.slice F B f)).toArray) u (recL rs t z j (.slice F B f)) 70 from setRow_heap _ _ _ _ _ (0,0) L.out)
   have J:=yH (show Prs (w3.setRow u (recL rs t z j (.slice F B f)).toArray) F H from by
    rcases Nat.eq_zero_or_pos H.length with C|C
    ·rw[List.eq_nil_of_length_eq_zero C]
     exact Prs.nil _ _
    ·exact D.out.keptB (by rw[setRow_size];exact yR _) fun b off e hb=>setRow_other _ _ _ _ (prs_off D.out L.out b off e C))
   have Z0:=yH ((bF.out.block w.heap.size (by omega)).trans Z1.out)
   have ac:w.heap.size<a.heap.size:=by omega
   generalize w3.setRow u (recL rs t z j (.slice F B f)).toArray=w6 at*
   clear Z N L D X b2 b3
   go_wp2_with(first
    |((with_reducible apply aAb 35);refine wpList_load_row rfl 70 (.tmp 6) rfl u rfl 70 (recL rs t z j (.slice F B f)).toArray (0,0) _ R6.out Tryz.underlying70 rfl (aAm _ _ _ _ _) ?_)
    |((with_reducible apply aAa (.tmp 4) (.tmp 35));refine wpList_store_row rfl 70 (.tmp 4) (.tmp 35) rfl w.heap.size (recL rs t z j (.slice F B f)).toArray rfl rfl 70 zR Z0.out (aAm _ _ _ _ _) rfl (by simp[Value.oneCell']) ?_)
    |fail)
   refine bodyPost_ret (v:= .tuple #[.agg (recL rs t z j (.slice F B f)).toArray,.bool true]) (by exact aAr Tryz.results29 _ _ w.heap.size 70 _ (0,0) _ _ rfl rfl (setRow_heap _ _ _ _ _ (0,0) Z0.out) Tryz.underlying70 rfl (aAm _ _ _ _ _)) rfl ?_
   refine⟨F,f,rfl,?_,fun b off e=>by have h7:=HN.out b off e;have h8:a.drew.heap.size=a.heap.size:=rfl;omega,below_setRow (b1.out.trans (bF.out.mono (by omega))) (yR _) _⟩
   rcases Nat.eq_zero_or_pos H.length with C|C
   ·rw[List.eq_nil_of_length_eq_zero C]
    exact Prs.nil _ _
   ·exact J.out.keptB (by rw[setRow_size];exact yR _) fun b off e hb=>setRow_other _ _ _ _ (prs_off J.out Z0.out b off e C)
  ·next hno=>exact absurd (by rfl) hno
 ·go_simp
  have b2:=yH (X.out.alloc X.out.size (.cells zR 70))
  refine hKK.out _ _ (by exact(N.out _ b2.out)) (fun hHeld=>?_)
  clear hKK KK
  try simp only[Act.put,sA,sZ,sS]
  refine rd 11 rfl (fun KK hKK=>?_)
  go_simp
  generalize ai:w.heap.size+1=u at*
  have Z2:=yH (show(a.alloc (.cells zR 70)).drew.heap[u]? =some (.cells zR 70 (0,0))from by rw[←ad];exact heap_alloc_new a (.cells zR 70))
  have am:(a.alloc (.cells zR 70)).drew.heap.size=u+1:=by
   show(a.alloc (.cells zR 70)).heap.size=u+1
   rw[World.size_alloc,ad]
  have b2:=yH (show Below a.heap.size a (a.alloc (.cells zR 70)).drew from((Below.refl a.heap.size a).alloc (yR _) _).drew)
  generalize al:(a.alloc (.cells zR 70)).drew=w2 at*
  ((refine(Z.out w2 (b1.out.trans (b2.out.mono (by omega)))).mono ?_);rintro e w3 ⟨F,f,rfl,hp,I,aa⟩;have D:=yH hp;have HN:=yH I;have b3:=yH (b2.out.trans (aa.mono b2.out.size));have L:=yH ((aa.block u (by omega)).trans Z2.out);clear hp I aa)
  try go_wp2_with fail
  refine hKK.out _ _ (by exact(N.out _ b3.out)) (fun hHeld=>?_)
  clear hKK KK
  have V:a.heap.size≤u:=by omega
  try simp only[Act.put,sA,sZ,sS]
  refine tq 12 20 rfl (fun W hSw=>by obtain⟨d,q,y⟩:=hSw;go_simp;try (with_reducible rfl)) ?_
  try simp only[Act.put,sA,sZ,sS]
  refine tq 13 33 rfl (fun W hSw=>by obtain⟨d,q,y⟩:=hSw;go_simp;try (with_reducible rfl)) ?_
  try simp only[Act.put,sA,sZ,sS]
  refine tq 14 34 rfl (fun W hSw=>by obtain⟨d,q,y⟩:=hSw;go_simp;try (with_reducible rfl)) ?_
  try simp only[Act.put,sA,sZ,sS]
  refine rd 16 rfl (fun KK hKK=>?_)
  split
  ·refine wp_store_row 70 (.tmp 6) (.tmp 33) rfl u (recL rs t z j (.slice F B f)).toArray rfl rfl 70 zR L.out (aAm _ _ _ _ _) rfl (by simp[Value.oneCell']) ?_
   have bF:=yH (below_setRow b3.out V (recL rs t z j (.slice F B f)).toArray)
   refine hKK.out _ _ (by exact(N.out _ bF.out)) (fun hHeld=>?_)
   clear hKK KK
   try simp only[Act.put,sA,sZ,sS]
   refine tq 17 7 rfl (fun W hSw=>by obtain⟨d,q,y⟩:=hSw;go_simp;try (with_reducible rfl)) ?_
   try simp only[Act.put,sA,sZ,sS]
   refine wpAnyH_done (by kernel_rfl) ?_ _
   refine NoPanic.normal ?_
   have R6:=yH (show Blk (w3.setRow u (recL rs t z j (.slice F B f)).toArray) u (recL rs t z j (.slice F B f)) 70 from setRow_heap _ _ _ _ _ (0,0) L.out)
   have J:=yH (show Prs (w3.setRow u (recL rs t z j (.slice F B f)).toArray) F H from by
    rcases Nat.eq_zero_or_pos H.length with C|C
    ·rw[List.eq_nil_of_length_eq_zero C]
     exact Prs.nil _ _
    ·exact D.out.keptB (by rw[setRow_size];exact yR _) fun b off e hb=>setRow_other _ _ _ _ (prs_off D.out L.out b off e C))
   have Z0:=yH ((bF.out.block w.heap.size (by omega)).trans Z1.out)
   have ac:w.heap.size<a.heap.size:=by omega
   generalize w3.setRow u (recL rs t z j (.slice F B f)).toArray=w6 at*
   clear Z N L D X b2 b3
   go_wp2_with(first
    |((with_reducible apply aAb 35);refine wpList_load_row rfl 70 (.tmp 6) rfl u rfl 70 (recL rs t z j (.slice F B f)).toArray (0,0) _ R6.out Tryz.underlying70 rfl (aAm _ _ _ _ _) ?_)
    |((with_reducible apply aAa (.tmp 4) (.tmp 35));refine wpList_store_row rfl 70 (.tmp 4) (.tmp 35) rfl w.heap.size (recL rs t z j (.slice F B f)).toArray rfl rfl 70 zR Z0.out (aAm _ _ _ _ _) rfl (by simp[Value.oneCell']) ?_)
    |fail)
   refine bodyPost_ret (v:= .tuple #[.agg (recL rs t z j (.slice F B f)).toArray,.bool true]) (by exact aAr Tryz.results29 _ _ w.heap.size 70 _ (0,0) _ _ rfl rfl (setRow_heap _ _ _ _ _ (0,0) Z0.out) Tryz.underlying70 rfl (aAm _ _ _ _ _)) rfl ?_
   refine⟨F,f,rfl,?_,fun b off e=>by have h7:=HN.out b off e;have h8:a.drew.heap.size=a.heap.size:=rfl;omega,below_setRow (b1.out.trans (bF.out.mono (by omega))) (yR _) _⟩
   rcases Nat.eq_zero_or_pos H.length with C|C
   ·rw[List.eq_nil_of_length_eq_zero C]
    exact Prs.nil _ _
   ·exact J.out.keptB (by rw[setRow_size];exact yR _) fun b off e hb=>setRow_other _ _ _ _ (prs_off J.out Z0.out b off e C)
  ·next hno=>exact absurd (by rfl) hno
end Skc
namespace Zl
open Bytes8 Ga Gb Gf Gj Gm Ma Mb Mh Na Nc Nt Za Zb Zd Zg Va Wa Zh Zj Zk Rn Rr Pl8
open Go1 (hcode magicB)
def stH (m:Mk)(st:Int):HD:=HD.plus (Mk.head m st) (m.depth:Int)
def stL (m:Mk)(st:Int):List Int:=(stH m st).bytes 21++m.b.drop 272
theorem aHV (m:Mk)(st:Int)(i:Nat)(a:i<20):(stH m st).N i=if i=1 then(m.b.length:Int)-272 else m.h.N i:=aCL m i a
theorem aQw {m:Mk}(h:Img m){st:Int}(hs:0≤st∧st≤2):(stH m st).Ok 21:=by
 have k:=aOW h
 exact {cp:=k.cp,ic:=k.ic,st:=by show -9223372036854775808≤st∧st≤9223372036854775807;omega,I:=k.I,ta:=k.ta,ti:=k.ti,te:=k.te,N:=k.N}
theorem aLP {m:Mk}(h:Img m){st:Int}(hs:0≤st∧st≤2):(Mk.head m st).Ok 20:=by
 have k:=aHz h
 exact {cp:=k.cp,ic:=k.ic,st:=by show -9223372036854775808≤st∧st≤9223372036854775807;omega,I:=k.I,ta:=k.ta,ti:=k.ti,te:=k.te,N:=k.N}
theorem st_len {m:Mk}(h:Img m)(st:Int):(stL m st).length=m.b.length:=by
 have:=h.lens
 unfold stL
 rw[List.length_append,HD.bytes_len,List.length_drop]
 omega
theorem aEu {m:Mk}(h:Img m){st:Int}(hs:0≤st∧st≤2):Says (hdOf (stL m st)) (stH m st):=
 aOV (stH m st) (aQw h hs) (by show 0≤st∧st<256;omega) (m.b.drop 272)
theorem aNK {m:Mk}(h:Img m){st:Int}(hs:0≤st∧st≤2)(N:Int):fcode (stH m st) N=fcode (imgH m) N:=by
 have e: ∀i,(stH m st).N i=(imgH m).N i:=fun i=>rfl
 have a:stB (stH m st).st=stB (imgH m).st:=by
  show stB st=stB 1
  have:st=0∨st=1∨st=2:=by omega
  rcases this with h|h|h<;>subst h<;>rfl
 unfold fcode endV endB
 rw[a]
 rfl
theorem aIU {m:Mk}(h:Img m){st:Int}(hs:0≤st∧st≤2):hcode (stL m st) m.b.length=0:=by
 have a:=h.lens
 unfold hcode
 rw[if_neg (by omega),show magicB (stL m st)=true from aJx _ _ _,if_neg (by simp),(aEu h hs).fcode,aNK h hs,aKU h _ (by omega)]
theorem aOm {m:Mk}(h:Img m){st:Int}(hs:0≤st∧st≤2):endV (hdOf (stL m st))=(m.b.length:Int)∧endB (hdOf (stL m st))=true:=by
 have s:=aEu h hs
 have c:=(s.N 0 (by decide)).trans (aHV m st 0 (by decide))
 have a:=(s.N 1 (by decide)).trans (aHV m st 1 (by decide))
 obtain⟨f,e,d⟩:=h.lens
 rw[if_neg (by decide),h.hg.n0]at c
 rw[if_pos rfl]at a
 unfold endV endB
 rw[c,a]
 constructor
 ·split<;>omega
 ·simp;omega
theorem aNL {m:Mk}{n0:Nat}{g:List O}{hs:Nat→List Nat}{i:List Nat}{n:List (Nat×List Int)}(k:Kept m n0 g hs i n){st:Int}(o:0≤st∧st≤2):
 chase (hdOf (stL m st)) (stL m st) m.b.length ((hdOf (stL m st)).N 8) 14 2 (m.b.length+1) [] ((hdOf (stL m st)).N 11).toNat 0=(toI i,0)∧(hdOf (stL m st)).N 8=(n0:Int):=by
 have d:=k.good.img
 have s:=aEu d o
 have c:=st_len d st
 have j:=(s.N 0 (by decide)).trans (aHV m st 0 (by decide))
 rw[if_neg (by decide),d.hg.n0]at j
 have f:=(s.N 8 (by decide)).trans (aHV m st 8 (by decide))
 rw[if_neg (by decide),k.n8]at f
 have a:=(s.N 11 (by decide)).trans (aHV m st 11 (by decide))
 rw[if_neg (by decide),k.n11]at a
 refine⟨?_,f⟩
 rw[f,a,Int.toNat_natCast]
 have l:stL m st=(stH m st).bytes 21++enc g:=by unfold stL;rw[k.hold.rep.rep.eq]
 have q:=aLI (h:=hdOf (stL m st)) l (by rw[HD.bytes_len]) k.hold.rep.ok j k.hold.mn k.rise (fun x hx=>by have:=k.bd x hx;rw[c];omega) (n0:Int) 14 2 (m.b.length+1) 0 0 (Nat.zero_le _) (Nat.zero_le _) (by show((0:Nat):Int)≤_;omega) (fun _=>rfl) (fun h=>absurd h (by decide)) (Nat.zero_le _) (by rw[c];omega)
 rw[c]at q
 have e:m.main.getD 0 0=m.main.headD 0:=by cases m.main<;>rfl
 rw[e]at q
 refine Eq.trans q ?_
 unfold told
 rw[if_pos (by have:=k.len;omega),Int.toNat_natCast,List.take_of_length_le (by have:=k.len;omega)]
theorem aP9 {m:Mk}{rs:List RR}{f:List O}{hs:Nat→List Nat}{a:List Nat}{d:List (Nat×List Int)}(k:Kept m rs.length f hs a d)(q:Recs m rs d){st:Int}(n:0≤st∧st≤2)(i:Nat)(g:i<rs.length):
 rcode (hdOf (stL m st)) (stL m st) m.b.length (a.getD i 0)=0∧(recP (hdOf (stL m st)) (stL m st) m.b.length (a.getD i 0)).s=m.h.N 9-rs.length+i+1∧(recP (hdOf (stL m st)) (stL m st) m.b.length (a.getD i 0)).r=rs[i].2.1∧(recP (hdOf (stL m st)) (stL m st) m.b.length (a.getD i 0)).m=rs[i].2.2.1∧(∀j,j<16→(recP (hdOf (stL m st)) (stL m st) m.b.length (a.getD i 0)).K j=rs[i].2.2.2 j)∧(∀x,x∈(recP (hdOf (stL m st)) (stL m st) m.b.length (a.getD i 0)).pl↔x∈listL rs[i].1):=by
 have c:=k.good.img
 have s:=aEu c n
 have l:=st_len c st
 have e:=(s.N 0 (by decide)).trans (aHV m st 0 (by decide))
 rw[if_neg (by decide),c.hg.n0]at e
 have o:stL m st=(stH m st).bytes 21++enc f:=by unfold stL;rw[k.hold.rep.rep.eq]
 have r:=aNI k q (H:=hdOf (stL m st)) o (by rw[HD.bytes_len]) e s.ic (fun i g=>s.I i (by omega)) i g
 rw[l]at r
 exact r
end Zl
namespace Skd
open Bytes8 Blk8 Own8 OwnE Rows2 Ga Gb Ma Na Np Nr Ns Nt Rc Rn Rr Va Pr8 Jb Ska Skc
open Yg (NewIn aAr)
def Look (w:World)(gx:Nat)(n:Int)(c:Nat)(W:World):Prop:=Below w.heap.size w W∧Blk W w.heap.size [.pointer (some ⟨gx,0,none⟩)] 63∧Blk W (w.heap.size+1) [.int .u64 n] 27∧Blk W (w.heap.size+2) [.int .i64 (c:Int)] 3
theorem Look.below {w:World}{d:Nat}{n:Int}{c:Nat}{W b:World}(h:Look w d n c W)(a:Below W.heap.size W b):Look w d n c b:=
 ⟨h.1.trans (a.mono h.1.size),h.2.1.below a h.2.1.lt,h.2.2.1.below a h.2.2.1.lt,h.2.2.2.below a h.2.2.2.lt⟩
theorem Look.one {w:World}{a:Nat}{n:Int}{c:Nat}{W:World}(h:Look w a n c W):Look w a n (c+1) (W.setCell ⟨w.heap.size+2,0,none⟩ (.int .i64 ((c:Int)+1))):=by
 obtain⟨e,b,f,d⟩:=h
 refine⟨e.setCell (p:=⟨w.heap.size+2,0,none⟩) (by show _≤w.heap.size+2;omega) _,?_,?_,?_⟩
 ·exact b.far (p:=⟨w.heap.size+2,0,none⟩) (by show w.heap.size≠w.heap.size+2;omega) _
 ·exact f.far (p:=⟨w.heap.size+2,0,none⟩) (by show w.heap.size+1≠w.heap.size+2;omega) _
 ·exact d.set_ 0 _
attribute [local irreducible] HD.cells wpList Code.wp
theorem aNM {w:World}{v m:Nat}{R:Nat→RecP}(B:Idx w v m R)(n:Int)(c:Nat)(J:c≤1000)(W:World)(h:Look w v n c W)(k:Nat)(I:k<m):
 Calls Tryz.prog 72 #[.int .i64 (k:Int),.pointer (some ⟨w.heap.size+2,0,none⟩),.pointer (some ⟨w.heap.size,0,none⟩),.pointer (some ⟨w.heap.size+1,0,none⟩)] W fun e W'=>e= .returned (.bool (decide (n≤(R k).s)))∧Look w v n (c+1) W'∧W.heap.size≤W'.heap.size:=by
 have u:=yH fun(V:World) (hV:Below w.heap.size w V)=>aHU (B.below hV) k I
 have z:=h.one
 have a:=yH z
 have D:=h.2.2.2.cell (i:=0) rfl
 have E:=h.2.2.2.frozen 0
 have x:IntKind.i64.wrap ((c:Int)+1)=(c:Int)+1:=by rw[IntKind.wrap_i64];omega
 have G:=z.2.1.cell (i:=0) rfl
 have g:(W.setCell ⟨w.heap.size+2,0,none⟩ (.int .i64 ((c:Int)+1))).heap.size=W.heap.size:=by simp
 have b:=yH g
 unfold ITell at u
 clear B h z g
 generalize R k=r at*
 obtain⟨rs,d,o,p,q,H⟩:=r
 dsimp only at*
 go_enter Tryz.func72,Tryz.ntmps72
 go_upto_region 2 with fail
 generalize W.setCell ⟨w.heap.size+2,0,none⟩ (.int .i64 ((c:Int)+1))=N at*
 clear D E x
 go_upto_region 3 with(first
  |(go_at_call 29;(refine(u.out _ a.out.1).mono ?_);rintro e w2 ⟨F,l,rfl,_,_,j⟩;have t:=yH j;clear j)
  |((with_reducible apply aAa (.tmp 6) (.tmp 14));refine wpList_store_row rfl 70 (.tmp 6) (.tmp 14) rfl w2.heap.size (recL rs d o p (.slice F q l)).toArray rfl rfl 70 zR (heap_alloc_new w2 _) (aAm _ _ _ _ _) rfl (by simp[Value.oneCell']) ?_)
  |fail)
 have C:=yH (show Blk ((w2.alloc (.cells zR 70)).setRow w2.heap.size (recL rs d o p (.slice F q l)).toArray) w2.heap.size (recL rs d o p (.slice F q l)) 70 from setRow_heap _ _ _ _ _ (0,0) (heap_alloc_new w2 _))
 have y:=yH (show Below w2.heap.size w2 ((w2.alloc (.cells zR 70)).setRow w2.heap.size (recL rs d o p (.slice F q l)).toArray)from below_setRow ((Below.refl _ _).alloc (yR _) _) (yR _) _)
 generalize (w2.alloc (.cells zR 70)).setRow w2.heap.size (recL rs d o p (.slice F q l)).toArray=w3 at*
 have A:=yH (a.out.below (t.out.trans (y.out.mono t.out.size)))
 have f:=Nat.le_trans t.out.size y.out.size
 rw[b.out]at f
 have L:=C.out.cell (i:=0) rfl
 have M:=A.out.2.2.1.cell (i:=0) rfl
 clear u a b t y G C
 generalize w2.heap.size=X at*
 go_wp2_with fail
 go_ret
 exact⟨rfl,A.out,f⟩
def natI:Value→Nat
 | .int _ z=>z.toNat
 |_=>0
theorem aJS {w:World}{B m:Nat}{R:Nat→RecP}(V:Idx w B m R)(n:Int)(w1:World)(h:Look w B n 0 w1):
 Calls Tryz.prog 71 #[.int .i64 (m:Int),.func (.func 72) #[] #[.pointer (some ⟨w.heap.size+2,0,none⟩),.pointer (some ⟨w.heap.size,0,none⟩),.pointer (some ⟨w.heap.size+1,0,none⟩)]] w1 fun e W'=> ∃r c:Nat,e= .returned (.int .i64 (r:Int))∧IsFst (fun k=>decide (n≤(R k).s)) m r∧(∀D,m<2^D→c≤D)∧Look w B n c W'∧w1.heap.size≤W'.heap.size:=by
 obtain⟨hm,_,H,_⟩:=V.facts
 have v:=yH fun(c:Nat) (hc:c≤1000) (W:World) (h:Look w B n c W) (k:Nat) (hk:k<m)=>aNM V n c hc W h k hk
 have G:=yH (show ∀a b,a≤b→b<m→(fun k=>decide (n≤(R k).s)) a=true→(fun k=>decide (n≤(R k).s)) b=true from fun a b hab hb h=>by
  have h':n≤(R a).s:=by simpa using h
  rcases Nat.eq_or_lt_of_le hab with e|e
  ·rw[←e];exact h
  ·have:=H a b e hb
   show decide (n≤(R b).s)=true
   simp
   omega)
 have HL:=yH h
 have E:=yH (Halves.start (fun k=>decide (n≤(R k).s)) m)
 have J:=yH (yR w1.heap.size)
 clear V h H
 generalize o:(fun k=>decide (n≤(R k).s))=p at*
 have z: ∀k,decide (n≤(R k).s)=p k:=fun k=>by rw[←o]
 simp only[z]at v
 clear o z
 go_enter Tryz.func71,Tryz.ntmps71
 go_wp2_with fail
 go_loopw [5,6] (fun iv jv wr=> ∃i j c:Nat,iv= .int .i64 (i:Int)∧jv= .int .i64 (j:Int)∧Hid (Halves p m i j c)∧Hid (Look w B n c wr)∧Hid (w1.heap.size≤wr.heap.size)) (fun iv jv _=>natI jv-natI iv)
 case atStart=>exact⟨0,m,0,rfl,rfl,E,HL,J⟩
 case round=>
  clear HL E J
  obtain⟨i,j,c,rfl,rfl,t,x,y⟩:=hrel
  have Y:=t.out.1
  have aa:=t.out.2.1
  have A:=t.out.few hm
  by_cases u:i<j
  ·have ac:decide ((i:Int)<(j:Int))=true:=by simp;omega
   have ad:IntKind.i64.wrap ((i:Int)+(j:Int))=((i+j:Nat):Int):=by rw[IntKind.wrap_i64];omega
   obtain⟨q,I⟩: ∃q,(i+j)/2=q:=⟨_,rfl⟩
   have hq:((i:Int)+(j:Int))/2=(q:Int):=by omega
   have ab:q<m:=by omega
   have F:i≤q:=by omega
   have L:q<j:=by omega
   have ae:IntKind.i64.wrap ((q:Int)+1)=((q+1:Nat):Int):=by rw[IntKind.wrap_i64];omega
   have M:=yH (v.out c (by omega) wr x.out q ab)
   have l:=yH (fun h=>t.out.lo (G.out) u h)
   have g:=yH (fun h=>t.out.hi u h)
   rw[I]at l g
   have HM:=yH (And.intro F L)
   clear I v G t x F L Y aa A
   cases o:p q with
   |true=>
    rw[o]at M
    have N:=yH (g.out o)
    clear o l g
    go_wp2_with(first
     |(go_at_call 72;(refine M.out.mono ?_);rintro e w2 ⟨rfl,f,d⟩;have Z:=yH f;have X:=yH (Nat.le_trans y.out d);clear f d)
     |fail)
    go_roundw
    case rel=>exact⟨i,q,c+1,rfl,rfl,N,Z,X⟩
    case measure=>simp[natI];have:=HM.out;omega
   |false=>
    rw[o]at M
    have N:=yH (l.out o)
    clear o l g
    go_wp2_with(first
     |(go_at_call 72;(refine M.out.mono ?_);rintro e w2 ⟨rfl,f,d⟩;have Z:=yH f;have X:=yH (Nat.le_trans y.out d);clear f d)
     |fail)
    go_roundw
    case rel=>exact⟨q+1,j,c+1,rfl,rfl,N,Z,X⟩
    case measure=>simp[natI];have:=HM.out;omega
  ·have ac:decide ((i:Int)<(j:Int))=false:=by simp;omega
   obtain⟨h1,h2⟩:=t.out.stop u
   have C:=yH (And.intro h1 h2)
   clear h1 h2
   go_wp2_with fail
   go_ret
   exact⟨i,c,rfl,C.out.1,C.out.2,x.out,y.out⟩
theorem Look.start (w:World)(a:Nat)(n:Int):Look w a n 0 (((w.alloc (.cells #[.pointer (some ⟨a,0,none⟩)] 63)).alloc (.cells #[.int .u64 n] 27)).alloc (.cells #[.int .i64 0] 3)):=by
 have c:(w.alloc (.cells #[.pointer (some ⟨a,0,none⟩)] 63)).heap.size=w.heap.size+1:=by simp
 have b:((w.alloc (.cells #[.pointer (some ⟨a,0,none⟩)] 63)).alloc (.cells #[.int .u64 n] 27)).heap.size=w.heap.size+2:=by simp
 refine⟨(((Below.refl w.heap.size w).alloc (yR _) _).alloc (by omega) _).alloc (by omega) _,?_,?_,?_⟩
 ·exact((Blk.new w [.pointer (some ⟨a,0,none⟩)] 63).alloc _).alloc _
 ·exact(Blk.new_at _ [.int .u64 n] 27 _ c).alloc _
 ·exact Blk.new_at _ [.int .i64 0] 3 _ b
theorem aHW {w:World}{a m:Nat}{R:Nat→RecP}(t:Idx w a m R)(n:Int):
 Calls Tryz.prog 30 #[.pointer (some ⟨a,0,none⟩),.int .u64 n] w fun e w'=> ∃r c:Nat,e= .returned (.tuple #[.int .i64 (r:Int),.int .i64 (c:Int)])∧IsFst (fun k=>decide (n≤(R k).s)) m r∧(∀D,m<2^D→c≤D)∧Below w.heap.size w w':=by
 have j:=yH (Look.start w a n)
 have f:=yH fun(W:World) (h:Look w a n 0 W)=>aJS t n W h
 have z:=yH fun(V:World) (hV:Below w.heap.size w V)=>show ∃o q,V.cell? ⟨a,1,none⟩=some (.slice o m q)from by
  obtain⟨gf,N,h,A,E,c,l,P,n,cp,out,cd,o,q,I,M,X,L,rfl⟩:=t.below hV
  exact⟨o,q,I.cell (i:=1) rfl⟩
 clear t
 obtain⟨o,q,H⟩:=z.out _ j.out.1
 have C:=j.out.2.1.cell (i:=0) rfl
 generalize (fun k=>decide (n≤(R k).s))=p at*
 have G:(w.alloc (.cells #[.pointer (some ⟨a,0,none⟩)] 63)).heap.size=w.heap.size+1:=by simp
 have B:((w.alloc (.cells #[.pointer (some ⟨a,0,none⟩)] 63)).alloc (.cells #[.int .u64 n] 27)).heap.size=w.heap.size+2:=by simp
 clear z
 go_enter Tryz.func30,Tryz.ntmps30
 go_upto_region 2 with fail
 have g:=yH (f.out _ j.out)
 clear f G B
 generalize (((w.alloc (.cells #[.pointer (some ⟨a,0,none⟩)] 63)).alloc (.cells #[.int .u64 n] 27)).alloc (.cells #[.int .i64 0] 3))=w3 at*
 go_upto_region 3 with(first
  |(go_at_call 71;(refine g.out.mono ?_);rintro e w4 ⟨r,c,rfl,v,x,b,d⟩;have y:=yH (And.intro v x);have u:=yH b;clear v x b d)
  |fail)
 have J:=u.out.2.2.2.cell (i:=0) rfl
 clear j C H g
 go_quiet (fail)
 have F:=yH (u.out.1.trans ((below_drewN (Below.refl w4.heap.size w4) nq).mono u.out.1.size))
 go_wp2_with fail
 go_ret2
 exact⟨r,c,rfl,y.out.1,y.out.2,F.out⟩
end Skd
namespace Jf
open Ga Gb Np Rr
def rowP (b0:Int)(i:Nat)(r:Zj.RR):RecP:=⟨b0+i+1,r.2.1,r.2.2.1,r.2.2.2,r.1.length,r.1⟩
structure SameP (p q:RecP):Prop where
 s:p.s=q.s
 r:p.r=q.r
 m:p.m=q.m
 K: ∀j,j<16→p.K j=q.K j
 pl: ∀y,y∈p.pl↔y∈q.pl
attribute [local irreducible] HD.cells wpList Code.wp
end Jf
namespace Jg
open Ga Gb Np
open Ri (ecode9)
open Go1 (hcode)
attribute [local irreducible] HD.cells wpList Code.wp
end Jg
namespace Ji
open Ga Gb Gj Ma Mb Na Nc Np Nt Nu Va Zg Zh Zj Zl Rn Rr Pr8 Ps8 Pl8 Ja Jd Je Jf
theorem list_mem {L:List PR}(h:listE L=0)(x:PR):x∈listL L↔x∈L:=by
 unfold listL
 rw[if_pos h,aBb,aC0]
theorem aLQ (l:List Nat)(x:Nat):((toI l).getD x 0).toNat=l.getD x 0:=by
 rw[List.getD_eq_getElem?_getD,List.getD_eq_getElem?_getD,List.getElem?_map]
 cases l[x]? <;>rfl
abbrev dP:RecP:=⟨0,0,0,fun _=>0,0,[]⟩
theorem aGQ {h:HD}{l:List Int}{E:Nat}{out:List Int}{b:Int}(a:0≤b)(n:Nat)(c: ∀x,x<n→jC h l E out x=0∧(jR h l E out x).s=b+x+1):goodRecs h l E out n=(List.range n).map fun x=>jR h l E out x:=by
 unfold goodRecs goodL
 rw[aJ4 a n c]
theorem aLR {m:Mk}{rs:List RR}{t:List Za.O}{hs:Nat→List Nat}{a:List Nat}{f:List (Nat×List Int)}(k:Kept m rs.length t hs a f)(q:Recs m rs f){st:Int}(o:0≤st∧st≤2){b0:Int}(v:m.h.N 9=b0+(rs.length:Int)):
 (goodRecs (hdOf (stL m st)) (stL m st) m.b.length (toI a) a.length).length=rs.length∧ ∀i (hi:i<rs.length),SameP ((goodRecs (hdOf (stL m st)) (stL m st) m.b.length (toI a) a.length).getD i dP) (rowP b0 i rs[i]):=by
 have u:=q.base
 have c:=fun i hi=>aP9 k q o i hi
 rw[k.len]
 have d:=aGQ (h:=hdOf (stL m st)) (l:=stL m st) (E:=m.b.length) (out:=toI a) (b:=b0) (by omega) rs.length (fun x hx=>by
  obtain⟨g,e,_⟩:=c x hx
  show rcode _ _ _ ((toI a).getD x 0).toNat=0∧(recP _ _ _ ((toI a).getD x 0).toNat).s=_
  rw[aLQ]
  exact⟨g,by rw[e];omega⟩)
 rw[d]
 refine⟨by rw[List.length_map,List.length_range],fun i hi=>?_⟩
 rw[List.getD_eq_getElem?_getD,List.getElem?_map,List.getElem?_range hi]
 obtain⟨g,e,j,n,r,p⟩:=c i hi
 show SameP (recP _ _ _ ((toI a).getD i 0).toNat) _
 rw[aLQ]
 exact⟨by rw[e];show _=b0+(i:Int)+1;omega,j,n,r,fun y=>(p y).trans (list_mem (q.ok _ (List.getElem_mem hi)).list y)⟩
end Ji
end Go.Proofs.YtlelnfokffflnaaGreat
