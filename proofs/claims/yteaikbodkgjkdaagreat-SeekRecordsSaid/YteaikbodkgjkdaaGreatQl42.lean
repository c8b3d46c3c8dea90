/-
  Texts beneath.
-/
import Derived.Test.YteaikbodkgjkdaaGreatQl41
set_option linter.unusedVariables false
set_option linter.unusedSimpArgs false
set_option maxRecDepth 100000
set_option maxHeartbeats 8000000
open Go.ChangeShapes Go.WideShapes Go.ChangeAt Go.RowKit
namespace Go.Proofs.YteaikbodkgjkdaaGreat
namespace Skc
open Bytes8 Blk8 Own8 OwnE Rows2 Ga Gb Ma Na Np Nr Ns Nt Rc Rn Rr Va Wa Pr8 Ja Jb Jc Jd Ska
open Jj (prs_off)
open Go1 (hcode)
open Yg (NewIn aAr)
def rK (h:HD)(l:List Int)(E:Nat)(out:List Int)(n:Nat):Nat→RecP:=fun k=>jR h l E out ((goodL h l E out n).getD k 0)
def Idx (w:World)(gx m:Nat)(R:Nat→RecP):Prop:= ∃(gf gv:Nat) (h:HD) (A:Option Addr) (E c:Nat) (l:List Int) (P:Option Addr) (n cp:Nat) (out:List Int) (cd:Int) (GA:Option Addr) (mc:Nat),
 Blk w gx [.pointer (some ⟨gf,0,none⟩),.slice GA m mc] 158∧FileAt w gf gv h A E c l P n cp out cd∧InInts .i64 w GA m (fun i=>(((goodL h l E out n).getD i 0:Nat):Int))∧(goodL h l E out n).length=m∧R=rK h l E out n
theorem Idx.below {w w':World}{gx m:Nat}{R:Nat→RecP}(x:Idx w gx m R)(hb:Below w.heap.size w w'):Idx w' gx m R:=by
 obtain⟨gf,gv,h,A,E,c,l,P,n,cp,out,cd,GA,mc,h1,h2,h3,h4,h5⟩:=x
 exact⟨gf,gv,h,A,E,c,l,P,n,cp,out,cd,GA,mc,h1.below hb h1.lt,h2.below hb,h3.below hb,h4,h5⟩
theorem Idx.facts {w:World}{gx m:Nat}{R:Nat→RecP}(x:Idx w gx m R):m≤800000∧(∀k,(R k).Ok)∧(∀a b,a<b→b<m→(R a).s<(R b).s)∧gx<w.heap.size:=by
 obtain⟨gf,gv,h,A,E,c,l,P,n,cp,out,cd,GA,mc,h1,h2,h3,h4,rfl⟩:=x
 obtain⟨s1,s2,s3,s4⟩:=aAR (jC h l E out) (fun x=>(jR h l E out x).s) n
 have h4':(goodR (jC h l E out) (fun x=>(jR h l E out x).s) n).1.length=m:=h4
 have hn:=h2.nb
 refine⟨by omega,fun k=>aLo h E _ h2.view.by_.1,fun a b hab hb=>?_,h1.lt⟩
 have ha2:a<(goodR (jC h l E out) (fun x=>(jR h l E out x).s) n).1.length:=by omega
 have hb2:b<(goodR (jC h l E out) (fun x=>(jR h l E out x).s) n).1.length:=by omega
 have k:=(List.pairwise_iff_getElem.1 s4) a b ha2 hb2 hab
 show(jR h l E out ((goodR (jC h l E out) (fun x=>(jR h l E out x).s) n).1.getD a 0)).s<(jR h l E out ((goodR (jC h l E out) (fun x=>(jR h l E out x).s) n).1.getD b 0)).s
 rw[List.getD_eq_getElem?_getD,List.getElem?_eq_getElem ha2,List.getD_eq_getElem?_getD,List.getElem?_eq_getElem hb2]
 exact k
theorem aNJ {w:World}{b m c:Nat}{A:Option Addr}{L:List Nat}(h:OwnE 3 1 w b A m c (ints L))(hl:L.length=m)(hb: ∀x∈L,x≤1000000):InInts .i64 w A m (fun i=>((L.getD i 0:Nat):Int)):=fun i hi=>by
 obtain⟨g,e,_,hlt,hc⟩:=OwnE.cell h (i:=i) (by rw[List.length_map];omega)
 have e2:L.getD i 0=L[i]:=by simp[List.getElem?_eq_getElem (show i<L.length by omega)]
 refine⟨g,0,e,hlt,?_,?_⟩
 ·rw[Nat.zero_add]
  refine hc.trans ?_
  rw[List.getElem?_map,List.getElem?_eq_getElem (by omega)]
  simp[List.getElem?_eq_getElem (show i<L.length by omega)]
 ·have:=hb L[i] (List.getElem_mem _)
  show(Lit.int .i64 ((L.getD i 0:Nat):Int)).wf=true
  rw[e2]
  simp[Lit.wf,IntKind.min,IntKind.max,IntKind.signed,IntKind.bits]
  omega
attribute [local irreducible] HD.cells wpList Code.wp
theorem new_any {w:World}{gf gv:Nat}{h:HD}{A:Option Addr}{E c:Nat}{l:List Int}{P:Option Addr}{n cp:Nat}{out:List Int}{cd:Int}(f:FileAt w gf gv h A E c l P n cp out cd):
 Calls Tryz.prog 74 #[.pointer (some ⟨gf,0,none⟩)] w fun e w'=> ∃gx,e= .returned (.pointer (some ⟨gx,0,none⟩))∧Idx w' gx (goodL h l E out n).length (rK h l E out n)∧Below w.heap.size w w':=by
 have HG:=yH (aNE f)
 have HF:=yH f
 have hn:=f.nb
 obtain⟨s1,s2,_⟩:=aAR (jC h l E out) (fun x=>(jR h l E out x).s) n
 have HL:=yH (show ∀x∈goodL h l E out n,x≤1000000 from fun x hx=>by have:=(s1 x hx).1;omega)
 have HI:=yH fun(W:World) (b A1:_) (m c1:Nat) (ho:OwnE 3 1 W b A1 m c1 (ints (goodL h l E out n))) (hl:(goodL h l E out n).length=m)=>aNJ ho hl HL.out
 have HX:=yH fun(W:World) (gx m mc:Nat) (GA:Option Addr) (h1:Blk W gx [.pointer (some ⟨gf,0,none⟩),.slice GA m mc] 158) (h2:FileAt W gf gv h A E c l P n cp out cd) (h3:InInts .i64 W GA m (fun i=>(((goodL h l E out n).getD i 0:Nat):Int))) (h4:(goodL h l E out n).length=m)=>show Idx W gx m (rK h l E out n)from⟨gf,gv,h,A,E,c,l,P,n,cp,out,cd,GA,mc,h1,h2,h3,h4,rfl⟩
 clear f s1 s2 HL
 generalize rK h l E out n=R at*
 generalize goodL h l E out n=L at*
 go_enter Tryz.func74,Tryz.ntmps74
 go_wp2_with(first
  |(go_at_call 29;(refine HG.out.mono ?_);rintro e w1 ⟨A1,m,c1,rfl,ho1,hl1,hb1⟩;have O1:=yH ho1;have L1:=yH hl1;have B1:=yH hb1;clear ho1 hl1 hb1)
  |fail)
 have b2:=yH ((Below.refl w1.heap.size w1).alloc (yR _) (.cells #[.pointer (some ⟨gf,0,none⟩),.slice A1 m c1] 158))
 go_ret
 refine⟨w1.heap.size,rfl,?_,B1.out.trans (b2.out.mono B1.out.size)⟩
 rw[L1.out]
 exact HX.out _ _ m c1 A1 (Blk.new w1 [.pointer (some ⟨gf,0,none⟩),.slice A1 m c1] _) ((HF.out.below B1.out).below b2.out) (HI.out _ _ A1 m c1 (O1.out.kept b2.out (yR _)) L1.out) L1.out
theorem aFN {w:World}{gx m:Nat}{R:Nat→RecP}(x:Idx w gx m R):Calls Tryz.prog 32 #[.pointer (some ⟨gx,0,none⟩)] w fun e w'=>e= .returned (.int .i64 (m:Int))∧w=w':=by
 obtain⟨gf,gv,h,A,E,c,l,P,n,cp,out,cd,GA,mc,h1,h2,h3,h4,rfl⟩:=x
 have k1:=h1.cell (i:=1) rfl
 clear h1 h2 h3 h4
 go_enter Tryz.func32,Tryz.ntmps32
 go_wp2
 go_ret
 exact⟨rfl,rfl⟩
def ITell (B:Nat)(p:RecP)(w:World)(e:Ending)(w':World):Prop:= ∃F c,e= .returned (.tuple #[p.v F c,.bool true])∧Prs w' F p.pl∧NewIn B F∧Below w.heap.size w w'
theorem aHR {w:World}{gx m:Nat}{R:Nat→RecP}(ix:Idx w gx m R)(k:Nat)(hk:k<m):Calls Tryz.prog 33 #[.pointer (some ⟨gx,0,none⟩),.int .i64 (k:Int)] w (ITell w.heap.size (R k) w):=by
 obtain⟨gf,gv,h,A,E,c,l,P,n,cp,out,cd,GA,mc,h1,h2,h3,h4,rfl⟩:=ix
 have b1:=yH ((Below.refl w.heap.size w).alloc (yR _) (.cells zR 64))
 have Z1:=yH (heap_alloc_new w (.cells zR 64))
 have hs1:(w.alloc (.cells zR 64)).heap.size=w.heap.size+1:=by simp
 have d1:decide ((k:Int)<0)=false:=by simp
 have d2:decide ((m:Int)≤(k:Int))=false:=by simp;omega
 have hki:(k:Int)<(m:Int):=by omega
 obtain⟨s1,_,_,_⟩:=aAR (jC h l E out) (fun x=>(jR h l E out x).s) n
 have hxm:(goodL h l E out n).getD k 0∈goodL h l E out n:=by
  rw[List.getD_eq_getElem?_getD,List.getElem?_eq_getElem (by omega)]
  exact List.getElem_mem _
 have hx:=s1 _ hxm
 obtain⟨bP,oP,rfl,hbP,hcP,_⟩:=h3 k hk
 dsimp only at hcP
 have HR:=yH fun(W:World) (hW:Below w.heap.size w W)=>aOl (h2.below hW) ((goodL h l E out n).getD k 0) hx.1
 have hcz:rcode h l E (out.getD ((goodL h l E out n).getD k 0) 0).toNat=0:=hx.2.1
 rw[hcz]at HR
 have hrk:recP h l E (out.getD ((goodL h l E out n).getD k 0) 0).toNat=rK h l E out n k:=rfl
 rw[hrk]at HR
 have k0:(w.alloc (.cells zR 64)).cell? ⟨gx,0,none⟩=some (.pointer (some ⟨gf,0,none⟩)):=(b1.out.cell (p:=⟨gx,0,none⟩) h1.lt).trans (h1.cell (i:=0) rfl)
 have k1:(w.alloc (.cells zR 64)).cell? ⟨gx,1,none⟩=some (.slice (some ⟨bP,oP,none⟩) m mc):=(b1.out.cell (p:=⟨gx,1,none⟩) h1.lt).trans (h1.cell (i:=1) rfl)
 have kP:(w.alloc (.cells zR 64)).cell? ⟨bP,oP+k,none⟩=some (.int .i64 (((goodL h l E out n).getD k 0:Nat):Int)):=(b1.out.cell (p:=⟨bP,oP+k,none⟩) hbP).trans hcP
 have hgx:=h1.lt
 unfold TellRN at HR
 clear h1 h2 h3 h4 hcz hrk hxm hx s1 hcP
 generalize rK h l E out n k=r at*
 generalize (goodL h l E out n).getD k 0=x at*
 obtain⟨rs,rr,rm,rK,rn,rpl⟩:=r
 dsimp only at*
 go_enter Tryz.func33,Tryz.ntmps33
 go_upto_region 3 with fail
 generalize hW1:w.alloc (.cells zR 64)=W1 at*
 have HS:=yH fun(W:World) (hW:Below W1.heap.size W1 W)=>show W.cell? ⟨gx,0,none⟩=some (.pointer (some ⟨gf,0,none⟩))∧W.cell? ⟨gx,1,none⟩=some (.slice (some ⟨bP,oP,none⟩) m mc)∧W.cell? ⟨bP,oP+k,none⟩=some (.int .i64 (x:Int))from
  ⟨(hW.cell (p:=⟨gx,0,none⟩) (by show gx<_;omega)).trans k0,(hW.cell (p:=⟨gx,1,none⟩) (by show gx<_;omega)).trans k1,(hW.cell (p:=⟨bP,oP+k,none⟩) (by show bP<_;omega)).trans kP⟩
 have D1:=yH (show Below W1.heap.size W1 W1.drew from(Below.refl W1.heap.size W1).drew)
 clear k0 k1 kP
 refine wp_region_noPanic ?_
 refine wp_region_held_drew (S:=fun W:World=>W.cell? ⟨gx,0,none⟩=some (.pointer (some ⟨gf,0,none⟩))∧W.cell? ⟨gx,1,none⟩=some (.slice (some ⟨bP,oP,none⟩) m mc)∧W.cell? ⟨bP,oP+k,none⟩=some (.int .i64 (x:Int))) (by kernel_rfl) (by exact HS.out _ D1.out) (fun hHeld=>?_)
 refine tq 0 21 rfl (fun W hSw=>by obtain⟨s1,s2,s3⟩:=hSw;go_simp;try (with_reducible rfl)) ?_
 try simp only[Act.put,sA,sZ,sS]
 refine tq 1 22 rfl (fun W hSw=>by obtain⟨s1,s2,s3⟩:=hSw;go_simp;try (with_reducible rfl)) ?_
 try simp only[Act.put,sA,sZ,sS]
 refine tq 2 23 rfl (fun W hSw=>by obtain⟨s1,s2,s3⟩:=hSw;go_simp;try (with_reducible rfl)) ?_
 try simp only[Act.put,sA,sZ,sS]
 refine tq 3 24 rfl (fun W hSw=>by obtain⟨s1,s2,s3⟩:=hSw;go_simp;try (with_reducible rfl)) ?_
 try simp only[Act.put,sA,sZ,sS]
 refine tq 4 25 rfl (fun W hSw=>by obtain⟨s1,s2,s3⟩:=hSw;go_simp;try (with_reducible rfl)) ?_
 try simp only[Act.put,sA,sZ,sS]
 refine tq 5 26 rfl (fun W hSw=>by obtain⟨s1,s2,s3⟩:=hSw;go_simp;try (with_reducible rfl)) ?_
 try simp only[Act.put,sA,sZ,sS]
 refine tq 6 27 rfl (fun W hSw=>by obtain⟨s1,s2,s3⟩:=hSw;go_simp;try (with_reducible rfl)) ?_
 try simp only[Act.put,sA,sZ,sS]
 refine tq 7 28 rfl (fun W hSw=>by obtain⟨s1,s2,s3⟩:=hSw;go_simp;try (with_reducible rfl)) ?_
 try simp only[Act.put,sA,sZ,sS]
 refine tq 8 29 rfl (fun W hSw=>by obtain⟨s1,s2,s3⟩:=hSw;go_simp;try (with_reducible rfl)) ?_
 try simp only[Act.put,sA,sZ,sS]
 refine tq 9 30 rfl (fun W hSw=>by obtain⟨s1,s2,s3⟩:=hSw;go_simp;try (with_reducible rfl)) ?_
 try simp only[Act.put,sA,sZ,sS]
 refine tq 10 31 rfl (fun W hSw=>by obtain⟨s1,s2,s3⟩:=hSw;go_simp;try (with_reducible rfl)) ?_
 try simp only[Act.put,sA,sZ,sS]
 refine wpAnyH_ready (rs:=[11,15]) (by kernel_rfl) (by simp) ?_
 refine AllReadyH.cons (o:=⟨some 32,_,_,_,_,_⟩) rfl (fun KK hKK=>?_) (AllReadyH.cons (o:=⟨some 6,_,_,_,_,_⟩) rfl (fun KK hKK=>?_) AllReadyH.nil)
 ·go_simp
  ((refine(HR.out _ (b1.out.trans (D1.out.mono (by omega)))).mono ?_);rintro e w2 ⟨F,c2,rfl,hp,hnw,hb2⟩;have HP:=yH hp;have HN:=yH hnw;have b2:=yH (D1.out.trans (hb2.mono D1.out.size));clear hp hnw hb2)
  try go_wp2_with fail
  refine hKK.out _ _ (by exact(HS.out _ b2.out)) (fun hHeld=>?_)
  clear hKK KK
  try simp only[Act.put,sA,sZ,sS]
  refine tq 12 20 rfl (fun W hSw=>by obtain⟨s1,s2,s3⟩:=hSw;go_simp;try (with_reducible rfl)) ?_
  try simp only[Act.put,sA,sZ,sS]
  refine tq 13 33 rfl (fun W hSw=>by obtain⟨s1,s2,s3⟩:=hSw;go_simp;try (with_reducible rfl)) ?_
  try simp only[Act.put,sA,sZ,sS]
  refine tq 14 34 rfl (fun W hSw=>by obtain⟨s1,s2,s3⟩:=hSw;go_simp;try (with_reducible rfl)) ?_
  try simp only[Act.put,sA,sZ,sS]
  refine rd 15 rfl (fun KK hKK=>?_)
  go_simp
  have b3:=yH (b2.out.alloc b2.out.size (.cells zR 64))
  refine hKK.out _ _ (by exact(HS.out _ b3.out)) (fun hHeld=>?_)
  clear hKK KK
  try simp only[Act.put,sA,sZ,sS]
  obtain⟨g6,hg6⟩: ∃g,w2.heap.size=g:=⟨_,rfl⟩
  have Z3:=yH (heap_alloc_new w2 (.cells zR 64))
  have hge:=b2.out.size
  have HP3:=yH (HP.out.below ((Below.refl w2.heap.size w2).alloc (yR _) (.cells zR 64)))
  generalize w2.alloc (.cells zR 64)=w3 at*
  rw[hg6]at Z3 hge⊢
  refine rd 16 rfl (fun KK hKK=>?_)
  split
  ·refine wp_store_row 64 (.tmp 6) (.tmp 33) rfl g6 (recL rs rr rm rK (.slice F rn c2)).toArray rfl rfl 64 zR Z3.out (aAm _ _ _ _ _) rfl (by simp[Value.oneCell']) ?_
   have bF:=yH (below_setRow b3.out hge (recL rs rr rm rK (.slice F rn c2)).toArray)
   refine hKK.out _ _ (by exact(HS.out _ bF.out)) (fun hHeld=>?_)
   clear hKK KK
   try simp only[Act.put,sA,sZ,sS]
   refine tq 17 7 rfl (fun W hSw=>by obtain⟨s1,s2,s3⟩:=hSw;go_simp;try (with_reducible rfl)) ?_
   try simp only[Act.put,sA,sZ,sS]
   refine wpAnyH_done (by kernel_rfl) ?_ _
   refine NoPanic.normal ?_
   have R6:=yH (show Blk (w3.setRow g6 (recL rs rr rm rK (.slice F rn c2)).toArray) g6 (recL rs rr rm rK (.slice F rn c2)) 64 from setRow_heap _ _ _ _ _ (0,0) Z3.out)
   have HP6:=yH (show Prs (w3.setRow g6 (recL rs rr rm rK (.slice F rn c2)).toArray) F rpl from by
    rcases Nat.eq_zero_or_pos rpl.length with h0|h0
    ·rw[List.eq_nil_of_length_eq_zero h0]
     exact Prs.nil _ _
    ·exact HP3.out.keptB (by rw[setRow_size];exact yR _) fun b off e hb=>setRow_other _ _ _ _ (prs_off HP3.out Z3.out b off e h0))
   have Z0:=yH ((bF.out.block w.heap.size (by omega)).trans Z1.out)
   have hlt0:w.heap.size<W1.heap.size:=by omega
   generalize w3.setRow g6 (recL rs rr rm rK (.slice F rn c2)).toArray=w6 at*
   clear HR HS Z3 HP3 D1 b2 b3
   go_wp2_with(first
    |((with_reducible apply aAb 35);refine wpList_load_row rfl 64 (.tmp 6) rfl g6 rfl 64 (recL rs rr rm rK (.slice F rn c2)).toArray (0,0) _ R6.out Tryz.underlying64 rfl (aAm _ _ _ _ _) ?_)
    |((with_reducible apply aAa (.tmp 4) (.tmp 35));refine wpList_store_row rfl 64 (.tmp 4) (.tmp 35) rfl w.heap.size (recL rs rr rm rK (.slice F rn c2)).toArray rfl rfl 64 zR Z0.out (aAm _ _ _ _ _) rfl (by simp[Value.oneCell']) ?_)
    |fail)
   refine bodyPost_ret (v:= .tuple #[.agg (recL rs rr rm rK (.slice F rn c2)).toArray,.bool true]) (by exact aAr Tryz.results33 _ _ w.heap.size 64 _ (0,0) _ _ rfl rfl (setRow_heap _ _ _ _ _ (0,0) Z0.out) Tryz.underlying64 rfl (aAm _ _ _ _ _)) rfl ?_
   refine⟨F,c2,rfl,?_,fun b off e=>by have h7:=HN.out b off e;have h8:W1.drew.heap.size=W1.heap.size:=rfl;omega,below_setRow (b1.out.trans (bF.out.mono (by omega))) (yR _) _⟩
   rcases Nat.eq_zero_or_pos rpl.length with h0|h0
   ·rw[List.eq_nil_of_length_eq_zero h0]
    exact Prs.nil _ _
   ·exact HP6.out.keptB (by rw[setRow_size];exact yR _) fun b off e hb=>setRow_other _ _ _ _ (prs_off HP6.out Z0.out b off e h0)
  ·next hno=>exact absurd (by rfl) hno
 ·go_simp
  have b2:=yH (D1.out.alloc D1.out.size (.cells zR 64))
  refine hKK.out _ _ (by exact(HS.out _ b2.out)) (fun hHeld=>?_)
  clear hKK KK
  try simp only[Act.put,sA,sZ,sS]
  refine rd 11 rfl (fun KK hKK=>?_)
  go_simp
  generalize hg6:w.heap.size+1=g6 at*
  have Z2:=yH (show(W1.alloc (.cells zR 64)).drew.heap[g6]? =some (.cells zR 64 (0,0))from by rw[←hs1];exact heap_alloc_new W1 (.cells zR 64))
  have hs2:(W1.alloc (.cells zR 64)).drew.heap.size=g6+1:=by
   show(W1.alloc (.cells zR 64)).heap.size=g6+1
   rw[World.size_alloc,hs1]
  have b2:=yH (show Below W1.heap.size W1 (W1.alloc (.cells zR 64)).drew from((Below.refl W1.heap.size W1).alloc (yR _) _).drew)
  generalize hw2:(W1.alloc (.cells zR 64)).drew=w2 at*
  ((refine(HR.out w2 (b1.out.trans (b2.out.mono (by omega)))).mono ?_);rintro e w3 ⟨F,c2,rfl,hp,hnw,hb3⟩;have HP3:=yH hp;have HN:=yH hnw;have b3:=yH (b2.out.trans (hb3.mono b2.out.size));have Z3:=yH ((hb3.block g6 (by omega)).trans Z2.out);clear hp hnw hb3)
  try go_wp2_with fail
  refine hKK.out _ _ (by exact(HS.out _ b3.out)) (fun hHeld=>?_)
  clear hKK KK
  have hge:W1.heap.size≤g6:=by omega
  try simp only[Act.put,sA,sZ,sS]
  refine tq 12 20 rfl (fun W hSw=>by obtain⟨s1,s2,s3⟩:=hSw;go_simp;try (with_reducible rfl)) ?_
  try simp only[Act.put,sA,sZ,sS]
  refine tq 13 33 rfl (fun W hSw=>by obtain⟨s1,s2,s3⟩:=hSw;go_simp;try (with_reducible rfl)) ?_
  try simp only[Act.put,sA,sZ,sS]
  refine tq 14 34 rfl (fun W hSw=>by obtain⟨s1,s2,s3⟩:=hSw;go_simp;try (with_reducible rfl)) ?_
  try simp only[Act.put,sA,sZ,sS]
  refine rd 16 rfl (fun KK hKK=>?_)
  split
  ·refine wp_store_row 64 (.tmp 6) (.tmp 33) rfl g6 (recL rs rr rm rK (.slice F rn c2)).toArray rfl rfl 64 zR Z3.out (aAm _ _ _ _ _) rfl (by simp[Value.oneCell']) ?_
   have bF:=yH (below_setRow b3.out hge (recL rs rr rm rK (.slice F rn c2)).toArray)
   refine hKK.out _ _ (by exact(HS.out _ bF.out)) (fun hHeld=>?_)
   clear hKK KK
   try simp only[Act.put,sA,sZ,sS]
   refine tq 17 7 rfl (fun W hSw=>by obtain⟨s1,s2,s3⟩:=hSw;go_simp;try (with_reducible rfl)) ?_
   try simp only[Act.put,sA,sZ,sS]
   refine wpAnyH_done (by kernel_rfl) ?_ _
   refine NoPanic.normal ?_
   have R6:=yH (show Blk (w3.setRow g6 (recL rs rr rm rK (.slice F rn c2)).toArray) g6 (recL rs rr rm rK (.slice F rn c2)) 64 from setRow_heap _ _ _ _ _ (0,0) Z3.out)
   have HP6:=yH (show Prs (w3.setRow g6 (recL rs rr rm rK (.slice F rn c2)).toArray) F rpl from by
    rcases Nat.eq_zero_or_pos rpl.length with h0|h0
    ·rw[List.eq_nil_of_length_eq_zero h0]
     exact Prs.nil _ _
    ·exact HP3.out.keptB (by rw[setRow_size];exact yR _) fun b off e hb=>setRow_other _ _ _ _ (prs_off HP3.out Z3.out b off e h0))
   have Z0:=yH ((bF.out.block w.heap.size (by omega)).trans Z1.out)
   have hlt0:w.heap.size<W1.heap.size:=by omega
   generalize w3.setRow g6 (recL rs rr rm rK (.slice F rn c2)).toArray=w6 at*
   clear HR HS Z3 HP3 D1 b2 b3
   go_wp2_with(first
    |((with_reducible apply aAb 35);refine wpList_load_row rfl 64 (.tmp 6) rfl g6 rfl 64 (recL rs rr rm rK (.slice F rn c2)).toArray (0,0) _ R6.out Tryz.underlying64 rfl (aAm _ _ _ _ _) ?_)
    |((with_reducible apply aAa (.tmp 4) (.tmp 35));refine wpList_store_row rfl 64 (.tmp 4) (.tmp 35) rfl w.heap.size (recL rs rr rm rK (.slice F rn c2)).toArray rfl rfl 64 zR Z0.out (aAm _ _ _ _ _) rfl (by simp[Value.oneCell']) ?_)
    |fail)
   refine bodyPost_ret (v:= .tuple #[.agg (recL rs rr rm rK (.slice F rn c2)).toArray,.bool true]) (by exact aAr Tryz.results33 _ _ w.heap.size 64 _ (0,0) _ _ rfl rfl (setRow_heap _ _ _ _ _ (0,0) Z0.out) Tryz.underlying64 rfl (aAm _ _ _ _ _)) rfl ?_
   refine⟨F,c2,rfl,?_,fun b off e=>by have h7:=HN.out b off e;have h8:W1.drew.heap.size=W1.heap.size:=rfl;omega,below_setRow (b1.out.trans (bF.out.mono (by omega))) (yR _) _⟩
   rcases Nat.eq_zero_or_pos rpl.length with h0|h0
   ·rw[List.eq_nil_of_length_eq_zero h0]
    exact Prs.nil _ _
   ·exact HP6.out.keptB (by rw[setRow_size];exact yR _) fun b off e hb=>setRow_other _ _ _ _ (prs_off HP6.out Z0.out b off e h0)
  ·next hno=>exact absurd (by rfl) hno
end Skc
namespace Zl
open Bytes8 Ga Gb Gf Gj Gm Ma Mb Mh Na Nc Nt Za Zb Zd Zg Va Wa Zh Zj Zk Rn Rr Pl8
open Go1 (hcode magicB)
def stH (m:Mk)(st:Int):HD:=HD.plus (Mk.head m st) (m.depth:Int)
def stL (m:Mk)(st:Int):List Int:=(stH m st).bytes 21++m.b.drop 272
theorem aHS (m:Mk)(st:Int)(i:Nat)(a:i<20):(stH m st).N i=if i=1 then(m.b.length:Int)-272 else m.h.N i:=aCL m i a
theorem aQw {m:Mk}(h:Img m){st:Int}(hs:0≤st∧st≤2):(stH m st).Ok 21:=by
 have k:=aOW h
 exact {cp:=k.cp,ic:=k.ic,st:=by show -9223372036854775808≤st∧st≤9223372036854775807;omega,I:=k.I,ta:=k.ta,ti:=k.ti,te:=k.te,N:=k.N}
theorem aLO {m:Mk}(h:Img m){st:Int}(hs:0≤st∧st≤2):(Mk.head m st).Ok 20:=by
 have k:=aHw h
 exact {cp:=k.cp,ic:=k.ic,st:=by show -9223372036854775808≤st∧st≤9223372036854775807;omega,I:=k.I,ta:=k.ta,ti:=k.ti,te:=k.te,N:=k.N}
theorem st_len {m:Mk}(h:Img m)(st:Int):(stL m st).length=m.b.length:=by
 have:=h.lens
 unfold stL
 rw[yA,HD.bytes_len,List.length_drop]
 omega
theorem aEu {m:Mk}(h:Img m){st:Int}(hs:0≤st∧st≤2):Says (hdOf (stL m st)) (stH m st):=
 aOV (stH m st) (aQw h hs) (by show 0≤st∧st<256;omega) (m.b.drop 272)
theorem aNK {m:Mk}(h:Img m){st:Int}(hs:0≤st∧st≤2)(N:Int):fcode (stH m st) N=fcode (imgH m) N:=by
 have e: ∀i,(stH m st).N i=(imgH m).N i:=fun i=>rfl
 have a:stB (stH m st).st=stB (imgH m).st:=by
  show stB st=stB 1
  have:st=0∨st=1∨st=2:=by omega
  rcases this with h|h|h<;>subst h<;>rfl
 unfold fcode endV endB
 rw[a]
 rfl
theorem aIU {m:Mk}(h:Img m){st:Int}(hs:0≤st∧st≤2):hcode (stL m st) m.b.length=0:=by
 have a:=h.lens
 unfold hcode
 rw[if_neg (by omega),show magicB (stL m st)=true from aJv _ _ _,if_neg (by simp),(aEu h hs).fcode,aNK h hs,aKT h _ (by omega)]
theorem aOm {m:Mk}(h:Img m){st:Int}(hs:0≤st∧st≤2):endV (hdOf (stL m st))=(m.b.length:Int)∧endB (hdOf (stL m st))=true:=by
 have s:=aEu h hs
 have a:=(s.N 0 (by decide)).trans (aHS m st 0 (by decide))
 have c:=(s.N 1 (by decide)).trans (aHS m st 1 (by decide))
 obtain⟨d,e,f⟩:=h.lens
 rw[if_neg (by decide),h.hg.n0]at a
 rw[if_pos rfl]at c
 unfold endV endB
 rw[a,c]
 constructor
 ·split<;>omega
 ·simp;omega
theorem aNL {m:Mk}{n0:Nat}{i:List O}{hs:Nat→List Nat}{j:List Nat}{n:List (Nat×List Int)}(k:Kept m n0 i hs j n){st:Int}(o:0≤st∧st≤2):
 chase (hdOf (stL m st)) (stL m st) m.b.length ((hdOf (stL m st)).N 8) 14 2 (m.b.length+1) [] ((hdOf (stL m st)).N 11).toNat 0=(toI j,0)∧(hdOf (stL m st)).N 8=(n0:Int):=by
 have c:=k.good.img
 have s:=aEu c o
 have f:=st_len c st
 have g:=(s.N 0 (by decide)).trans (aHS m st 0 (by decide))
 rw[if_neg (by decide),c.hg.n0]at g
 have d:=(s.N 8 (by decide)).trans (aHS m st 8 (by decide))
 rw[if_neg (by decide),k.n8]at d
 have a:=(s.N 11 (by decide)).trans (aHS m st 11 (by decide))
 rw[if_neg (by decide),k.n11]at a
 refine⟨?_,d⟩
 rw[d,a,Int.toNat_natCast]
 have l:stL m st=(stH m st).bytes 21++enc i:=by unfold stL;rw[k.hold.rep.rep.eq]
 have q:=aLH (h:=hdOf (stL m st)) l (by rw[HD.bytes_len]) k.hold.rep.ok g k.hold.mn k.rise (fun x hx=>by have:=k.bd x hx;rw[f];omega) (n0:Int) 14 2 (m.b.length+1) 0 0 (Nat.zero_le _) (Nat.zero_le _) (by show((0:Nat):Int)≤_;omega) (fun _=>rfl) (fun h=>absurd h (by decide)) (Nat.zero_le _) (by rw[f];omega)
 rw[f]at q
 have e:m.main.getD 0 0=m.main.headD 0:=by cases m.main<;>rfl
 rw[e]at q
 refine Eq.trans q ?_
 unfold told
 rw[if_pos (by have:=k.len;omega),Int.toNat_natCast,List.take_of_length_le (by have:=k.len;omega)]
theorem aP9 {m:Mk}{rs:List RR}{g:List O}{hs:Nat→List Nat}{a:List Nat}{e:List (Nat×List Int)}(k:Kept m rs.length g hs a e)(q:Recs m rs e){st:Int}(n:0≤st∧st≤2)(i:Nat)(f:i<rs.length):
 rcode (hdOf (stL m st)) (stL m st) m.b.length (a.getD i 0)=0∧(recP (hdOf (stL m st)) (stL m st) m.b.length (a.getD i 0)).s=m.h.N 9-rs.length+i+1∧(recP (hdOf (stL m st)) (stL m st) m.b.length (a.getD i 0)).r=rs[i].2.1∧(recP (hdOf (stL m st)) (stL m st) m.b.length (a.getD i 0)).m=rs[i].2.2.1∧(∀j,j<16→(recP (hdOf (stL m st)) (stL m st) m.b.length (a.getD i 0)).K j=rs[i].2.2.2 j)∧(∀x,x∈(recP (hdOf (stL m st)) (stL m st) m.b.length (a.getD i 0)).pl↔x∈listL rs[i].1):=by
 have c:=k.good.img
 have s:=aEu c n
 have o:=st_len c st
 have d:=(s.N 0 (by decide)).trans (aHS m st 0 (by decide))
 rw[if_neg (by decide),c.hg.n0]at d
 have l:stL m st=(stH m st).bytes 21++enc g:=by unfold stL;rw[k.hold.rep.rep.eq]
 have r:=aNI k q (H:=hdOf (stL m st)) l (by rw[HD.bytes_len]) d s.ic (fun i f=>s.I i (by omega)) i f
 rw[o]at r
 exact r
end Zl
namespace Skd
open Bytes8 Blk8 Own8 OwnE Rows2 Ga Gb Ma Na Np Nr Ns Nt Rc Rn Rr Va Pr8 Jb Ska Skc
open Yg (NewIn aAr)
def Look (w:World)(gx:Nat)(n:Int)(c:Nat)(W:World):Prop:=Below w.heap.size w W∧Blk W w.heap.size [.pointer (some ⟨gx,0,none⟩)] 73∧Blk W (w.heap.size+1) [.int .u64 n] 59∧Blk W (w.heap.size+2) [.int .i64 (c:Int)] 3
theorem Look.below {w:World}{b:Nat}{n:Int}{c:Nat}{W d:World}(h:Look w b n c W)(a:Below W.heap.size W d):Look w b n c d:=
 ⟨h.1.trans (a.mono h.1.size),h.2.1.below a h.2.1.lt,h.2.2.1.below a h.2.2.1.lt,h.2.2.2.below a h.2.2.2.lt⟩
theorem Look.one {w:World}{a:Nat}{n:Int}{c:Nat}{W:World}(h:Look w a n c W):Look w a n (c+1) (W.setCell ⟨w.heap.size+2,0,none⟩ (.int .i64 ((c:Int)+1))):=by
 obtain⟨e,b,f,d⟩:=h
 refine⟨e.setCell (p:=⟨w.heap.size+2,0,none⟩) (by show _≤w.heap.size+2;omega) _,?_,?_,?_⟩
 ·exact b.far (p:=⟨w.heap.size+2,0,none⟩) (by show w.heap.size≠w.heap.size+2;omega) _
 ·exact f.far (p:=⟨w.heap.size+2,0,none⟩) (by show w.heap.size+1≠w.heap.size+2;omega) _
 ·exact d.set_ 0 _
attribute [local irreducible] HD.cells wpList Code.wp
theorem aNM {w:World}{z m:Nat}{R:Nat→RecP}(C:Idx w z m R)(n:Int)(c:Nat)(X:c≤1000)(W:World)(h:Look w z n c W)(k:Nat)(G:k<m):
 Calls Tryz.prog 77 #[.int .i64 (k:Int),.pointer (some ⟨w.heap.size+2,0,none⟩),.pointer (some ⟨w.heap.size,0,none⟩),.pointer (some ⟨w.heap.size+1,0,none⟩)] W fun e W'=>e= .returned (.bool (decide (n≤(R k).s)))∧Look w z n (c+1) W'∧W.heap.size≤W'.heap.size:=by
 have x:=yH fun(V:World) (hV:Below w.heap.size w V)=>aHR (C.below hV) k G
 have v:=h.one
 have a:=yH v
 have I:=h.2.2.2.cell (i:=0) rfl
 have H:=h.2.2.2.frozen 0
 have y:IntKind.i64.wrap ((c:Int)+1)=(c:Int)+1:=by rw[IntKind.wrap_i64];omega
 have E:=v.2.1.cell (i:=0) rfl
 have f:(W.setCell ⟨w.heap.size+2,0,none⟩ (.int .i64 ((c:Int)+1))).heap.size=W.heap.size:=by simp
 have o:=yH f
 unfold ITell at x
 clear C h v f
 generalize R k=r at*
 obtain⟨rs,d,j,q,b,D⟩:=r
 dsimp only at*
 go_enter Tryz.func77,Tryz.ntmps77
 go_upto_region 2 with fail
 generalize W.setCell ⟨w.heap.size+2,0,none⟩ (.int .i64 ((c:Int)+1))=M at*
 clear I H y
 go_upto_region 3 with(first
  |(go_at_call 33;(refine(x.out _ a.out.1).mono ?_);rintro e w2 ⟨F,g,rfl,_,_,l⟩;have t:=yH l;clear l)
  |((with_reducible apply aAa (.tmp 6) (.tmp 14));refine wpList_store_row rfl 64 (.tmp 6) (.tmp 14) rfl w2.heap.size (recL rs d j q (.slice F b g)).toArray rfl rfl 64 zR (heap_alloc_new w2 _) (aAm _ _ _ _ _) rfl (by simp[Value.oneCell']) ?_)
  |fail)
 have A:=yH (show Blk ((w2.alloc (.cells zR 64)).setRow w2.heap.size (recL rs d j q (.slice F b g)).toArray) w2.heap.size (recL rs d j q (.slice F b g)) 64 from setRow_heap _ _ _ _ _ (0,0) (heap_alloc_new w2 _))
 have u:=yH (show Below w2.heap.size w2 ((w2.alloc (.cells zR 64)).setRow w2.heap.size (recL rs d j q (.slice F b g)).toArray)from below_setRow ((yB _ _).alloc (yR _) _) (yR _) _)
 generalize (w2.alloc (.cells zR 64)).setRow w2.heap.size (recL rs d j q (.slice F b g)).toArray=w3 at*
 have B:=yH (a.out.below (t.out.trans (u.out.mono t.out.size)))
 have p:=Nat.le_trans t.out.size u.out.size
 rw[o.out]at p
 have N:=A.out.cell (i:=0) rfl
 have J:=B.out.2.2.1.cell (i:=0) rfl
 clear x a o t u E A
 generalize w2.heap.size=L at*
 go_wp2_with fail
 go_ret
 exact⟨rfl,B.out,p⟩
def natI:Value→Nat
 | .int _ z=>z.toNat
 |_=>0
theorem aJQ {w:World}{G m:Nat}{R:Nat→RecP}(X:Idx w G m R)(n:Int)(w1:World)(h:Look w G n 0 w1):
 Calls Tryz.prog 76 #[.int .i64 (m:Int),.func (.func 77) #[] #[.pointer (some ⟨w.heap.size+2,0,none⟩),.pointer (some ⟨w.heap.size,0,none⟩),.pointer (some ⟨w.heap.size+1,0,none⟩)]] w1 fun e W'=> ∃r c:Nat,e= .returned (.int .i64 (r:Int))∧IsFst (fun k=>decide (n≤(R k).s)) m r∧(∀D,m<2^D→c≤D)∧Look w G n c W'∧w1.heap.size≤W'.heap.size:=by
 obtain⟨hm,_,L,_⟩:=X.facts
 have y:=yH fun(c:Nat) (hc:c≤1000) (W:World) (h:Look w G n c W) (k:Nat) (hk:k<m)=>aNM X n c hc W h k hk
 have H:=yH (show ∀a b,a≤b→b<m→(fun k=>decide (n≤(R k).s)) a=true→(fun k=>decide (n≤(R k).s)) b=true from fun a b hab hb h=>by
  have h':n≤(R a).s:=by simpa using h
  rcases Nat.eq_or_lt_of_le hab with e|e
  ·rw[←e];exact h
  ·have:=L a b e hb
   show decide (n≤(R b).s)=true
   simp
   omega)
 have HL:=yH h
 have E:=yH (Halves.start (fun k=>decide (n≤(R k).s)) m)
 have B:=yH (yR w1.heap.size)
 clear X h L
 generalize o:(fun k=>decide (n≤(R k).s))=p at*
 have A: ∀k,decide (n≤(R k).s)=p k:=fun k=>by rw[←o]
 simp only[A]at y
 clear o A
 go_enter Tryz.func76,Tryz.ntmps76
 go_wp2_with fail
 go_loopw [5,6] (fun iv jv wr=> ∃i j c:Nat,iv= .int .i64 (i:Int)∧jv= .int .i64 (j:Int)∧Hid (Halves p m i j c)∧Hid (Look w G n c wr)∧Hid (w1.heap.size≤wr.heap.size)) (fun iv jv _=>natI jv-natI iv)
 case atStart=>exact⟨0,m,0,rfl,rfl,E,HL,B⟩
 case round=>
  clear HL E B
  obtain⟨i,j,c,rfl,rfl,u,v,x⟩:=hrel
  have N:=u.out.1
  have Z:=u.out.2.1
  have F:=u.out.few hm
  by_cases t:i<j
  ·have Y:decide ((i:Int)<(j:Int))=true:=by simp;omega
   have ac:IntKind.i64.wrap ((i:Int)+(j:Int))=((i+j:Nat):Int):=by rw[IntKind.wrap_i64];omega
   obtain⟨q,I⟩: ∃q,(i+j)/2=q:=⟨_,rfl⟩
   have hq:((i:Int)+(j:Int))/2=(q:Int):=by omega
   have aa:q<m:=by omega
   have z:i≤q:=by omega
   have J:q<j:=by omega
   have ab:IntKind.i64.wrap ((q:Int)+1)=((q+1:Nat):Int):=by rw[IntKind.wrap_i64];omega
   have M:=yH (y.out c (by omega) wr v.out q aa)
   have g:=yH (fun h=>u.out.lo (H.out) t h)
   have l:=yH (fun h=>u.out.hi t h)
   rw[I]at g l
   have HM:=yH (And.intro z J)
   clear I y H u v z J N Z F
   cases o:p q with
   |true=>
    rw[o]at M
    have H2:=yH (l.out o)
    clear o g l
    go_wp2_with(first
     |(go_at_call 77;(refine M.out.mono ?_);rintro e w2 ⟨rfl,f,d⟩;have L2:=yH f;have V:=yH (Nat.le_trans x.out d);clear f d)
     |fail)
    go_roundw
    case rel=>exact⟨i,q,c+1,rfl,rfl,H2,L2,V⟩
    case measure=>simp[natI];have:=HM.out;omega
   |false=>
    rw[o]at M
    have H2:=yH (g.out o)
    clear o g l
    go_wp2_with(first
     |(go_at_call 77;(refine M.out.mono ?_);rintro e w2 ⟨rfl,f,d⟩;have L2:=yH f;have V:=yH (Nat.le_trans x.out d);clear f d)
     |fail)
    go_roundw
    case rel=>exact⟨q+1,j,c+1,rfl,rfl,H2,L2,V⟩
    case measure=>simp[natI];have:=HM.out;omega
  ·have Y:decide ((i:Int)<(j:Int))=false:=by simp;omega
   obtain⟨h1,h2⟩:=u.out.stop t
   have C:=yH (And.intro h1 h2)
   clear h1 h2
   go_wp2_with fail
   go_ret
   exact⟨i,c,rfl,C.out.1,C.out.2,v.out,x.out⟩
theorem Look.start (w:World)(a:Nat)(n:Int):Look w a n 0 (((w.alloc (.cells #[.pointer (some ⟨a,0,none⟩)] 73)).alloc (.cells #[.int .u64 n] 59)).alloc (.cells #[.int .i64 0] 3)):=by
 have b:(w.alloc (.cells #[.pointer (some ⟨a,0,none⟩)] 73)).heap.size=w.heap.size+1:=by simp
 have c:((w.alloc (.cells #[.pointer (some ⟨a,0,none⟩)] 73)).alloc (.cells #[.int .u64 n] 59)).heap.size=w.heap.size+2:=by simp
 refine⟨(((yB w.heap.size w).alloc (yR _) _).alloc (by omega) _).alloc (by omega) _,?_,?_,?_⟩
 ·exact((Blk.new w [.pointer (some ⟨a,0,none⟩)] 73).alloc _).alloc _
 ·exact(Blk.new_at _ [.int .u64 n] 59 _ b).alloc _
 ·exact Blk.new_at _ [.int .i64 0] 3 _ c
theorem aHT {w:World}{a m:Nat}{R:Nat→RecP}(u:Idx w a m R)(n:Int):
 Calls Tryz.prog 34 #[.pointer (some ⟨a,0,none⟩),.int .u64 n] w fun e w'=> ∃r c:Nat,e= .returned (.tuple #[.int .i64 (r:Int),.int .i64 (c:Int)])∧IsFst (fun k=>decide (n≤(R k).s)) m r∧(∀D,m<2^D→c≤D)∧Below w.heap.size w w':=by
 have q:=yH (Look.start w a n)
 have b:=yH fun(W:World) (h:Look w a n 0 W)=>aJQ u n W h
 have z:=yH fun(V:World) (hV:Below w.heap.size w V)=>show ∃o j,V.cell? ⟨a,1,none⟩=some (.slice o m j)from by
  obtain⟨gf,L,h,A,E,c,l,P,n,cp,out,cd,o,j,G,J,N,M,rfl⟩:=u.below hV
  exact⟨o,j,G.cell (i:=1) rfl⟩
 clear u
 obtain⟨o,j,B⟩:=z.out _ q.out.1
 have F:=q.out.2.1.cell (i:=0) rfl
 generalize (fun k=>decide (n≤(R k).s))=p at*
 have H:(w.alloc (.cells #[.pointer (some ⟨a,0,none⟩)] 73)).heap.size=w.heap.size+1:=by simp
 have C:((w.alloc (.cells #[.pointer (some ⟨a,0,none⟩)] 73)).alloc (.cells #[.int .u64 n] 59)).heap.size=w.heap.size+2:=by simp
 clear z
 go_enter Tryz.func34,Tryz.ntmps34
 go_upto_region 2 with fail
 have g:=yH (b.out _ q.out)
 clear b H C
 generalize (((w.alloc (.cells #[.pointer (some ⟨a,0,none⟩)] 73)).alloc (.cells #[.int .u64 n] 59)).alloc (.cells #[.int .i64 0] 3))=w3 at*
 go_upto_region 3 with(first
  |(go_at_call 76;(refine g.out.mono ?_);rintro e w4 ⟨r,c,rfl,y,v,f,d⟩;have x:=yH (And.intro y v);have t:=yH f;clear y v f d)
  |fail)
 have X:=t.out.2.2.2.cell (i:=0) rfl
 clear q F B g
 go_quiet (fail)
 have I:=yH (t.out.1.trans ((below_drewN (yB w4.heap.size w4) nq).mono t.out.1.size))
 go_wp2_with fail
 go_ret2
 exact⟨r,c,rfl,x.out.1,x.out.2,I.out⟩
end Skd
namespace Jf
open Ga Gb Np Rr
def rowP (b0:Int)(i:Nat)(r:Zj.RR):RecP:=⟨b0+i+1,r.2.1,r.2.2.1,r.2.2.2,r.1.length,r.1⟩
structure SameP (p q:RecP):Prop where
 s:p.s=q.s
 r:p.r=q.r
 m:p.m=q.m
 K: ∀j,j<16→p.K j=q.K j
 pl: ∀y,y∈p.pl↔y∈q.pl
attribute [local irreducible] HD.cells wpList Code.wp
end Jf
namespace Jg
open Ga Gb Np
open Ri (ecode9)
open Go1 (hcode)
attribute [local irreducible] HD.cells wpList Code.wp
end Jg
namespace Ji
open Ga Gb Gj Ma Mb Na Nc Np Nt Nu Va Zg Zh Zj Zl Rn Rr Pr8 Ps8 Pl8 Ja Jd Je Jf
theorem list_mem {L:List PR}(h:listE L=0)(x:PR):x∈listL L↔x∈L:=by
 unfold listL
 rw[if_pos h,aBb,aC0]
theorem aLP (l:List Nat)(x:Nat):((toI l).getD x 0).toNat=l.getD x 0:=by
 rw[yD,yD,List.getElem?_map]
 cases l[x]? <;>rfl
abbrev dP:RecP:=⟨0,0,0,fun _=>0,0,[]⟩
theorem aGP {h:HD}{l:List Int}{E:Nat}{out:List Int}{b:Int}(a:0≤b)(n:Nat)(c: ∀x,x<n→jC h l E out x=0∧(jR h l E out x).s=b+x+1):goodRecs h l E out n=(List.range n).map fun x=>jR h l E out x:=by
 unfold goodRecs goodL
 rw[aJ4 a n c]
theorem aLQ {m:Mk}{rs:List RR}{r:List Za.O}{hs:Nat→List Nat}{a:List Nat}{f:List (Nat×List Int)}(k:Kept m rs.length r hs a f)(q:Recs m rs f){st:Int}(o:0≤st∧st≤2){b0:Int}(v:m.h.N 9=b0+(rs.length:Int)):
 (goodRecs (hdOf (stL m st)) (stL m st) m.b.length (toI a) a.length).length=rs.length∧ ∀i (hi:i<rs.length),SameP ((goodRecs (hdOf (stL m st)) (stL m st) m.b.length (toI a) a.length).getD i dP) (rowP b0 i rs[i]):=by
 have u:=q.base
 have c:=fun i hi=>aP9 k q o i hi
 rw[k.len]
 have d:=aGP (h:=hdOf (stL m st)) (l:=stL m st) (E:=m.b.length) (out:=toI a) (b:=b0) (by omega) rs.length (fun x hx=>by
  obtain⟨g,e,_⟩:=c x hx
  show rcode _ _ _ ((toI a).getD x 0).toNat=0∧(recP _ _ _ ((toI a).getD x 0).toNat).s=_
  rw[aLP]
  exact⟨g,by rw[e];omega⟩)
 rw[d]
 refine⟨by rw[List.length_map,List.length_range],fun i hi=>?_⟩
 rw[yD,List.getElem?_map,List.getElem?_range hi]
 obtain⟨g,e,p,n,t,j⟩:=c i hi
 show SameP (recP _ _ _ ((toI a).getD i 0).toNat) _
 rw[aLP]
 exact⟨by rw[e];show _=b0+(i:Int)+1;omega,p,n,t,fun y=>(j y).trans (list_mem (q.ok _ (List.getElem_mem hi)).list y)⟩
end Ji
end Go.Proofs.YteaikbodkgjkdaaGreat
