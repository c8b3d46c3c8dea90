/-
  Texts beneath the proof.
-/
import Derived.Test.YtiddkgcafpaekaaGreatQs42
set_option linter.unusedVariables false
set_option linter.unusedSimpArgs false
set_option maxRecDepth 100000
set_option maxHeartbeats 8000000
open Go.ChangeShapes Go.WideShapes Go.ChangeAt Go.RowKit
namespace Go.Proofs.YtiddkgcafpaekaaGreat
namespace Skc
open Bytes8 Blk8 Own8 OwnE Rows2 Ga Gb Ma Na Np Nr Ns Nt Rc Rn Rr Va Wa Pr8 Ja Jb Jc Jd Ska
open Jj (prs_off)
open Go1 (hcode)
open Yg (NewIn res_row)
def rK (h:HD)(l:List Int)(E:Nat)(out:List Int)(n:Nat):Nat→RecP:=fun k=>jR h l E out ((goodL h l E out n).getD k 0)
def Idx (w:World)(gx m:Nat)(R:Nat→RecP):Prop:= ∃(gf gv:Nat) (h:HD) (A:Option Addr) (E c:Nat) (l:List Int) (P:Option Addr) (n cp:Nat) (out:List Int) (cd:Int) (GA:Option Addr) (mc:Nat),
 Blk w gx [.pointer (some ⟨gf,0,none⟩),.slice GA m mc] 184∧FileAt w gf gv h A E c l P n cp out cd∧InInts .i64 w GA m (fun i=>(((goodL h l E out n).getD i 0:Nat):Int))∧(goodL h l E out n).length=m∧R=rK h l E out n
theorem Idx.below {w w':World}{gx m:Nat}{R:Nat→RecP}(x:Idx w gx m R)(hb:Below w.heap.size w w'):Idx w' gx m R:=by
 obtain⟨gf,gv,h,A,E,c,l,P,n,cp,out,cd,GA,mc,h1,h2,h3,h4,h5⟩:=x
 exact⟨gf,gv,h,A,E,c,l,P,n,cp,out,cd,GA,mc,h1.below hb h1.lt,h2.below hb,h3.below hb,h4,h5⟩
theorem Idx.facts {w:World}{gx m:Nat}{R:Nat→RecP}(x:Idx w gx m R):m≤800000∧(∀k,(R k).Ok)∧(∀a b,a<b→b<m→(R a).s<(R b).s)∧gx<w.heap.size:=by
 obtain⟨gf,gv,h,A,E,c,l,P,n,cp,out,cd,GA,mc,h1,h2,h3,h4,rfl⟩:=x
 obtain⟨s1,s2,s3,s4⟩:=goodR_spec (jC h l E out) (fun x=>(jR h l E out x).s) n
 have h4':(goodR (jC h l E out) (fun x=>(jR h l E out x).s) n).1.length=m:=h4
 have hn:=h2.nb
 refine⟨by omega,fun k=>recP_ok h E _ h2.view.by_.1,fun a b hab hb=>?_,h1.lt⟩
 have ha2:a<(goodR (jC h l E out) (fun x=>(jR h l E out x).s) n).1.length:=by omega
 have hb2:b<(goodR (jC h l E out) (fun x=>(jR h l E out x).s) n).1.length:=by omega
 have k:=(List.pairwise_iff_getElem.1 s4) a b ha2 hb2 hab
 show(jR h l E out ((goodR (jC h l E out) (fun x=>(jR h l E out x).s) n).1.getD a 0)).s<(jR h l E out ((goodR (jC h l E out) (fun x=>(jR h l E out x).s) n).1.getD b 0)).s
 rw[List.getD_eq_getElem?_getD,List.getElem?_eq_getElem ha2,List.getD_eq_getElem?_getD,List.getElem?_eq_getElem hb2]
 exact k
theorem ints_in1 {w:World}{b m c:Nat}{A:Option Addr}{L:List Nat}(h:OwnE 3 1 w b A m c (ints L))(hl:L.length=m)(hb: ∀x∈L,x≤1000000):InInts .i64 w A m (fun i=>((L.getD i 0:Nat):Int)):=fun i hi=>by
 obtain⟨g,e,_,hlt,hc⟩:=OwnE.cell h (i:=i) (by rw[List.length_map];omega)
 have e2:L.getD i 0=L[i]:=by simp[List.getElem?_eq_getElem (show i<L.length by omega)]
 refine⟨g,0,e,hlt,?_,?_⟩
 ·rw[Nat.zero_add]
  refine hc.trans ?_
  rw[List.getElem?_map,List.getElem?_eq_getElem (by omega)]
  simp[List.getElem?_eq_getElem (show i<L.length by omega)]
 ·have:=hb L[i] (List.getElem_mem _)
  show(Lit.int .i64 ((L.getD i 0:Nat):Int)).wf=true
  rw[e2]
  simp[Lit.wf,IntKind.min,IntKind.max,IntKind.signed,IntKind.bits]
  omega
attribute [local irreducible] HD.cells wpList Code.wp
theorem new_any {w:World}{gf gv:Nat}{h:HD}{A:Option Addr}{E c:Nat}{l:List Int}{P:Option Addr}{n cp:Nat}{out:List Int}{cd:Int}(f:FileAt w gf gv h A E c l P n cp out cd):
 Calls Tryz.prog 86 #[.pointer (some ⟨gf,0,none⟩)] w fun e w'=> ∃gx,e= .returned (.pointer (some ⟨gx,0,none⟩))∧Idx w' gx (goodL h l E out n).length (rK h l E out n)∧Below w.heap.size w w':=by
 have HG:=yH (good_any f)
 have HF:=yH f
 have hn:=f.nb
 obtain⟨s1,s2,_⟩:=goodR_spec (jC h l E out) (fun x=>(jR h l E out x).s) n
 have HL:=yH (show ∀x∈goodL h l E out n,x≤1000000 from fun x hx=>by have:=(s1 x hx).1;omega)
 have HI:=yH fun(W:World) (b A1:_) (m c1:Nat) (ho:OwnE 3 1 W b A1 m c1 (ints (goodL h l E out n))) (hl:(goodL h l E out n).length=m)=>ints_in1 ho hl HL.out
 have HX:=yH fun(W:World) (gx m mc:Nat) (GA:Option Addr) (h1:Blk W gx [.pointer (some ⟨gf,0,none⟩),.slice GA m mc] 184) (h2:FileAt W gf gv h A E c l P n cp out cd) (h3:InInts .i64 W GA m (fun i=>(((goodL h l E out n).getD i 0:Nat):Int))) (h4:(goodL h l E out n).length=m)=>show Idx W gx m (rK h l E out n)from⟨gf,gv,h,A,E,c,l,P,n,cp,out,cd,GA,mc,h1,h2,h3,h4,rfl⟩
 clear f s1 s2 HL
 generalize rK h l E out n=R at*
 generalize goodL h l E out n=L at*
 go_enter Tryz.func86,Tryz.ntmps86
 go_wp2_with(first
  |(go_at_call 84;(refine HG.out.mono ?_);rintro e w1 ⟨A1,m,c1,rfl,ho1,hl1,hb1⟩;have O1:=yH ho1;have L1:=yH hl1;have B1:=yH hb1;clear ho1 hl1 hb1)
  |fail)
 have b2:=yH ((Below.refl w1.heap.size w1).alloc (yR _) (.cells #[.pointer (some ⟨gf,0,none⟩),.slice A1 m c1] 184))
 go_ret
 refine⟨w1.heap.size,rfl,?_,B1.out.trans (b2.out.mono B1.out.size)⟩
 rw[L1.out]
 exact HX.out _ _ m c1 A1 (Blk.new w1 [.pointer (some ⟨gf,0,none⟩),.slice A1 m c1] _) ((HF.out.below B1.out).below b2.out) (HI.out _ _ A1 m c1 (O1.out.kept b2.out (yR _)) L1.out) L1.out
theorem ilen_any {w:World}{gx m:Nat}{R:Nat→RecP}(x:Idx w gx m R):Calls Tryz.prog 39 #[.pointer (some ⟨gx,0,none⟩)] w fun e w'=>e= .returned (.int .i64 (m:Int))∧w=w':=by
 obtain⟨gf,gv,h,A,E,c,l,P,n,cp,out,cd,GA,mc,h1,h2,h3,h4,rfl⟩:=x
 have k1:=h1.cell (i:=1) rfl
 clear h1 h2 h3 h4
 go_enter Tryz.func39,Tryz.ntmps39
 go_wp2
 go_ret
 exact⟨rfl,rfl⟩
def ITell (B:Nat)(p:RecP)(w:World)(e:Ending)(w':World):Prop:= ∃F c,e= .returned (.tuple #[p.v F c,.bool true])∧Prs w' F p.pl∧NewIn B F∧Below w.heap.size w w'
theorem irec_in {w:World}{gx m:Nat}{R:Nat→RecP}(ix:Idx w gx m R)(k:Nat)(hk:k<m):Calls Tryz.prog 44 #[.pointer (some ⟨gx,0,none⟩),.int .i64 (k:Int)] w (ITell w.heap.size (R k) w):=by
 obtain⟨gf,gv,h,A,E,c,l,P,n,cp,out,cd,GA,mc,h1,h2,h3,h4,rfl⟩:=ix
 have b1:=yH ((Below.refl w.heap.size w).alloc (yR _) (.cells zR 74))
 have Z1:=yH (heap_alloc_new w (.cells zR 74))
 have hs1:(w.alloc (.cells zR 74)).heap.size=w.heap.size+1:=by simp
 have d1:decide ((k:Int)<0)=false:=by simp
 have d2:decide ((m:Int)≤(k:Int))=false:=by simp;omega
 have hki:(k:Int)<(m:Int):=by omega
 obtain⟨s1,_,_,_⟩:=goodR_spec (jC h l E out) (fun x=>(jR h l E out x).s) n
 have hxm:(goodL h l E out n).getD k 0∈goodL h l E out n:=by
  rw[List.getD_eq_getElem?_getD,List.getElem?_eq_getElem (by omega)]
  exact List.getElem_mem _
 have hx:=s1 _ hxm
 obtain⟨bP,oP,rfl,hbP,hcP,_⟩:=h3 k hk
 dsimp only at hcP
 have HR:=yH fun(W:World) (hW:Below w.heap.size w W)=>rec_in (h2.below hW) ((goodL h l E out n).getD k 0) hx.1
 have hcz:rcode h l E (out.getD ((goodL h l E out n).getD k 0) 0).toNat=0:=hx.2.1
 rw[hcz]at HR
 have hrk:recP h l E (out.getD ((goodL h l E out n).getD k 0) 0).toNat=rK h l E out n k:=rfl
 rw[hrk]at HR
 have k0:(w.alloc (.cells zR 74)).cell? ⟨gx,0,none⟩=some (.pointer (some ⟨gf,0,none⟩)):=(b1.out.cell (p:=⟨gx,0,none⟩) h1.lt).trans (h1.cell (i:=0) rfl)
 have k1:(w.alloc (.cells zR 74)).cell? ⟨gx,1,none⟩=some (.slice (some ⟨bP,oP,none⟩) m mc):=(b1.out.cell (p:=⟨gx,1,none⟩) h1.lt).trans (h1.cell (i:=1) rfl)
 have kP:(w.alloc (.cells zR 74)).cell? ⟨bP,oP+k,none⟩=some (.int .i64 (((goodL h l E out n).getD k 0:Nat):Int)):=(b1.out.cell (p:=⟨bP,oP+k,none⟩) hbP).trans hcP
 have hgx:=h1.lt
 unfold TellRN at HR
 clear h1 h2 h3 h4 hcz hrk hxm hx s1 hcP
 generalize rK h l E out n k=r at*
 generalize (goodL h l E out n).getD k 0=x at*
 obtain⟨rs,rr,rm,rK,rn,rpl⟩:=r
 dsimp only at*
 go_enter Tryz.func44,Tryz.ntmps44
 go_upto_region 3 with fail
 generalize hW1:w.alloc (.cells zR 74)=W1 at*
 have HS:=yH fun(W:World) (hW:Below W1.heap.size W1 W)=>show W.cell? ⟨gx,0,none⟩=some (.pointer (some ⟨gf,0,none⟩))∧W.cell? ⟨gx,1,none⟩=some (.slice (some ⟨bP,oP,none⟩) m mc)∧W.cell? ⟨bP,oP+k,none⟩=some (.int .i64 (x:Int))from
  ⟨(hW.cell (p:=⟨gx,0,none⟩) (by show gx<_;omega)).trans k0,(hW.cell (p:=⟨gx,1,none⟩) (by show gx<_;omega)).trans k1,(hW.cell (p:=⟨bP,oP+k,none⟩) (by show bP<_;omega)).trans kP⟩
 have D1:=yH (show Below W1.heap.size W1 W1.drew from(Below.refl W1.heap.size W1).drew)
 clear k0 k1 kP
 refine wp_region_noPanic ?_
 refine wp_region_held_drew (S:=fun W:World=>W.cell? ⟨gx,0,none⟩=some (.pointer (some ⟨gf,0,none⟩))∧W.cell? ⟨gx,1,none⟩=some (.slice (some ⟨bP,oP,none⟩) m mc)∧W.cell? ⟨bP,oP+k,none⟩=some (.int .i64 (x:Int))) (by kernel_rfl) (by exact HS.out _ D1.out) (fun hHeld=>?_)
 refine tk (i:=0) (oi:=⟨some 21,_,_,_,_,_⟩) (v:=?_) rfl (Or.inl ⟨by rfl,?_⟩) ?_
 rotate_left
 ·intro W hSw;obtain⟨s1,s2,s3⟩:=hSw;go_simp;try (with_reducible rfl)
 try simp only[Act.put,sA,sZ,sS]
 refine tk (i:=1) (oi:=⟨some 22,_,_,_,_,_⟩) (v:=?_) rfl (Or.inl ⟨by rfl,?_⟩) ?_
 rotate_left
 ·intro W hSw;obtain⟨s1,s2,s3⟩:=hSw;go_simp;try (with_reducible rfl)
 try simp only[Act.put,sA,sZ,sS]
 refine tk (i:=2) (oi:=⟨some 23,_,_,_,_,_⟩) (v:=?_) rfl (Or.inl ⟨by rfl,?_⟩) ?_
 rotate_left
 ·intro W hSw;obtain⟨s1,s2,s3⟩:=hSw;go_simp;try (with_reducible rfl)
 try simp only[Act.put,sA,sZ,sS]
 refine tk (i:=3) (oi:=⟨some 24,_,_,_,_,_⟩) (v:=?_) rfl (Or.inl ⟨by rfl,?_⟩) ?_
 rotate_left
 ·intro W hSw;obtain⟨s1,s2,s3⟩:=hSw;go_simp;try (with_reducible rfl)
 try simp only[Act.put,sA,sZ,sS]
 refine tk (i:=4) (oi:=⟨some 25,_,_,_,_,_⟩) (v:=?_) rfl (Or.inl ⟨by rfl,?_⟩) ?_
 rotate_left
 ·intro W hSw;obtain⟨s1,s2,s3⟩:=hSw;go_simp;try (with_reducible rfl)
 try simp only[Act.put,sA,sZ,sS]
 refine tk (i:=5) (oi:=⟨some 26,_,_,_,_,_⟩) (v:=?_) rfl (Or.inl ⟨by rfl,?_⟩) ?_
 rotate_left
 ·intro W hSw;obtain⟨s1,s2,s3⟩:=hSw;go_simp;try (with_reducible rfl)
 try simp only[Act.put,sA,sZ,sS]
 refine tk (i:=6) (oi:=⟨some 27,_,_,_,_,_⟩) (v:=?_) rfl (Or.inl ⟨by rfl,?_⟩) ?_
 rotate_left
 ·intro W hSw;obtain⟨s1,s2,s3⟩:=hSw;go_simp;try (with_reducible rfl)
 try simp only[Act.put,sA,sZ,sS]
 refine tk (i:=7) (oi:=⟨some 28,_,_,_,_,_⟩) (v:=?_) rfl (Or.inl ⟨by rfl,?_⟩) ?_
 rotate_left
 ·intro W hSw;obtain⟨s1,s2,s3⟩:=hSw;go_simp;try (with_reducible rfl)
 try simp only[Act.put,sA,sZ,sS]
 refine tk (i:=8) (oi:=⟨some 29,_,_,_,_,_⟩) (v:=?_) rfl (Or.inl ⟨by rfl,?_⟩) ?_
 rotate_left
 ·intro W hSw;obtain⟨s1,s2,s3⟩:=hSw;go_simp;try (with_reducible rfl)
 try simp only[Act.put,sA,sZ,sS]
 refine tk (i:=9) (oi:=⟨some 30,_,_,_,_,_⟩) (v:=?_) rfl (Or.inl ⟨by rfl,?_⟩) ?_
 rotate_left
 ·intro W hSw;obtain⟨s1,s2,s3⟩:=hSw;go_simp;try (with_reducible rfl)
 try simp only[Act.put,sA,sZ,sS]
 refine tk (i:=10) (oi:=⟨some 31,_,_,_,_,_⟩) (v:=?_) rfl (Or.inl ⟨by rfl,?_⟩) ?_
 rotate_left
 ·intro W hSw;obtain⟨s1,s2,s3⟩:=hSw;go_simp;try (with_reducible rfl)
 try simp only[Act.put,sA,sZ,sS]
 refine wpAnyH_ready (rs:=[11,15]) (by kernel_rfl) (by simp) ?_
 refine AllReadyH.cons (o:=⟨some 32,_,_,_,_,_⟩) rfl (fun KK hKK=>?_) (AllReadyH.cons (o:=⟨some 6,_,_,_,_,_⟩) rfl (fun KK hKK=>?_) AllReadyH.nil)
 ·go_simp
  ((refine(HR.out _ (b1.out.trans (D1.out.mono (by omega)))).mono ?_);rintro e w2 ⟨F,c2,rfl,hp,hnw,hb2⟩;have HP:=yH hp;have HN:=yH hnw;have b2:=yH (D1.out.trans (hb2.mono D1.out.size));clear hp hnw hb2)
  try go_wp2_with fail
  refine hKK.out _ _ (by exact(HS.out _ b2.out)) (fun hHeld=>?_)
  clear hKK KK
  try simp only[Act.put,sA,sZ,sS]
  refine tk (i:=12) (oi:=⟨some 20,_,_,_,_,_⟩) (v:=?_) rfl (Or.inl ⟨by rfl,?_⟩) ?_
  rotate_left
  ·intro W hSw;obtain⟨s1,s2,s3⟩:=hSw;go_simp;try (with_reducible rfl)
  try simp only[Act.put,sA,sZ,sS]
  refine tk (i:=13) (oi:=⟨some 33,_,_,_,_,_⟩) (v:=?_) rfl (Or.inl ⟨by rfl,?_⟩) ?_
  rotate_left
  ·intro W hSw;obtain⟨s1,s2,s3⟩:=hSw;go_simp;try (with_reducible rfl)
  try simp only[Act.put,sA,sZ,sS]
  refine tk (i:=14) (oi:=⟨some 34,_,_,_,_,_⟩) (v:=?_) rfl (Or.inl ⟨by rfl,?_⟩) ?_
  rotate_left
  ·intro W hSw;obtain⟨s1,s2,s3⟩:=hSw;go_simp;try (with_reducible rfl)
  try simp only[Act.put,sA,sZ,sS]
  refine wpAnyH_ready (rs:=[15]) (by kernel_rfl) (by simp) ?_
  refine AllReadyH.cons (o:=⟨some 6,_,_,_,_,_⟩) rfl (fun KK hKK=>?_) AllReadyH.nil
  go_simp
  have b3:=yH (b2.out.alloc b2.out.size (.cells zR 74))
  refine hKK.out _ _ (by exact(HS.out _ b3.out)) (fun hHeld=>?_)
  clear hKK KK
  try simp only[Act.put,sA,sZ,sS]
  obtain⟨g6,hg6⟩: ∃g,w2.heap.size=g:=⟨_,rfl⟩
  have Z3:=yH (heap_alloc_new w2 (.cells zR 74))
  have hge:=b2.out.size
  have HP3:=yH (HP.out.below ((Below.refl w2.heap.size w2).alloc (yR _) (.cells zR 74)))
  generalize w2.alloc (.cells zR 74)=w3 at*
  rw[hg6]at Z3 hge⊢
  refine wpAnyH_ready (rs:=[16]) (by kernel_rfl) (by simp) ?_
  refine AllReadyH.cons (o:=⟨none,_,_,_,_,_⟩) rfl (fun KK hKK=>?_) AllReadyH.nil
  split
  ·refine wp_store_row 74 (.tmp 6) (.tmp 33) rfl g6 (recL rs rr rm rK (.slice F rn c2)).toArray rfl rfl 74 zR Z3.out (recInfo _ _ _ _ _) rfl (by simp[Value.oneCell']) ?_
   have bF:=yH (below_setRow b3.out hge (recL rs rr rm rK (.slice F rn c2)).toArray)
   refine hKK.out _ _ (by exact(HS.out _ bF.out)) (fun hHeld=>?_)
   clear hKK KK
   try simp only[Act.put,sA,sZ,sS]
   refine tk (i:=17) (oi:=⟨some 7,_,_,_,_,_⟩) (v:=?_) rfl (Or.inl ⟨by rfl,?_⟩) ?_
   rotate_left
   ·intro W hSw;obtain⟨s1,s2,s3⟩:=hSw;go_simp;try (with_reducible rfl)
   try simp only[Act.put,sA,sZ,sS]
   refine wpAnyH_done (by kernel_rfl) ?_ _
   refine NoPanic.normal ?_
   have R6:=yH (show Blk (w3.setRow g6 (recL rs rr rm rK (.slice F rn c2)).toArray) g6 (recL rs rr rm rK (.slice F rn c2)) 74 from setRow_heap _ _ _ _ _ (0,0) Z3.out)
   have HP6:=yH (show Prs (w3.setRow g6 (recL rs rr rm rK (.slice F rn c2)).toArray) F rpl from by
    rcases Nat.eq_zero_or_pos rpl.length with h0|h0
    ·rw[List.eq_nil_of_length_eq_zero h0]
     exact Prs.nil _ _
    ·exact HP3.out.keptB (by rw[setRow_size];exact yR _) fun b off e hb=>setRow_other _ _ _ _ (prs_off HP3.out Z3.out b off e h0))
   have Z0:=yH ((bF.out.block w.heap.size (by omega)).trans Z1.out)
   have hlt0:w.heap.size<W1.heap.size:=by omega
   generalize w3.setRow g6 (recL rs rr rm rK (.slice F rn c2)).toArray=w6 at*
   clear HR HS Z3 HP3 D1 b2 b3
   go_wp2_with(first
    |((with_reducible apply at_slot 35);refine wpList_load_row rfl 74 (.tmp 6) rfl g6 rfl 74 (recL rs rr rm rK (.slice F rn c2)).toArray (0,0) _ R6.out Tryz.underlying74 rfl (recInfo _ _ _ _ _) ?_)
    |((with_reducible apply at_store (.tmp 4) (.tmp 35));refine wpList_store_row rfl 74 (.tmp 4) (.tmp 35) rfl w.heap.size (recL rs rr rm rK (.slice F rn c2)).toArray rfl rfl 74 zR Z0.out (recInfo _ _ _ _ _) rfl (by simp[Value.oneCell']) ?_)
    |fail)
   refine bodyPost_ret (v:= .tuple #[.agg (recL rs rr rm rK (.slice F rn c2)).toArray,.bool true]) (by exact res_row Tryz.results44 _ _ w.heap.size 74 _ (0,0) _ _ rfl rfl (setRow_heap _ _ _ _ _ (0,0) Z0.out) Tryz.underlying74 rfl (recInfo _ _ _ _ _)) rfl ?_
   refine⟨F,c2,rfl,?_,fun b off e=>by have h7:=HN.out b off e;have h8:W1.drew.heap.size=W1.heap.size:=rfl;omega,below_setRow (b1.out.trans (bF.out.mono (by omega))) (yR _) _⟩
   rcases Nat.eq_zero_or_pos rpl.length with h0|h0
   ·rw[List.eq_nil_of_length_eq_zero h0]
    exact Prs.nil _ _
   ·exact HP6.out.keptB (by rw[setRow_size];exact yR _) fun b off e hb=>setRow_other _ _ _ _ (prs_off HP6.out Z0.out b off e h0)
  ·next hno=>exact absurd (by rfl) hno
 ·go_simp
  have b2:=yH (D1.out.alloc D1.out.size (.cells zR 74))
  refine hKK.out _ _ (by exact(HS.out _ b2.out)) (fun hHeld=>?_)
  clear hKK KK
  try simp only[Act.put,sA,sZ,sS]
  refine wpAnyH_ready (rs:=[11]) (by kernel_rfl) (by simp) ?_
  refine AllReadyH.cons (o:=⟨some 32,_,_,_,_,_⟩) rfl (fun KK hKK=>?_) AllReadyH.nil
  go_simp
  generalize hg6:w.heap.size+1=g6 at*
  have Z2:=yH (show(W1.alloc (.cells zR 74)).drew.heap[g6]? =some (.cells zR 74 (0,0))from by rw[←hs1];exact heap_alloc_new W1 (.cells zR 74))
  have hs2:(W1.alloc (.cells zR 74)).drew.heap.size=g6+1:=by
   show(W1.alloc (.cells zR 74)).heap.size=g6+1
   rw[World.size_alloc,hs1]
  have b2:=yH (show Below W1.heap.size W1 (W1.alloc (.cells zR 74)).drew from((Below.refl W1.heap.size W1).alloc (yR _) _).drew)
  generalize hw2:(W1.alloc (.cells zR 74)).drew=w2 at*
  ((refine(HR.out w2 (b1.out.trans (b2.out.mono (by omega)))).mono ?_);rintro e w3 ⟨F,c2,rfl,hp,hnw,hb3⟩;have HP3:=yH hp;have HN:=yH hnw;have b3:=yH (b2.out.trans (hb3.mono b2.out.size));have Z3:=yH ((hb3.block g6 (by omega)).trans Z2.out);clear hp hnw hb3)
  try go_wp2_with fail
  refine hKK.out _ _ (by exact(HS.out _ b3.out)) (fun hHeld=>?_)
  clear hKK KK
  have hge:W1.heap.size≤g6:=by omega
  try simp only[Act.put,sA,sZ,sS]
  refine tk (i:=12) (oi:=⟨some 20,_,_,_,_,_⟩) (v:=?_) rfl (Or.inl ⟨by rfl,?_⟩) ?_
  rotate_left
  ·intro W hSw;obtain⟨s1,s2,s3⟩:=hSw;go_simp;try (with_reducible rfl)
  try simp only[Act.put,sA,sZ,sS]
  refine tk (i:=13) (oi:=⟨some 33,_,_,_,_,_⟩) (v:=?_) rfl (Or.inl ⟨by rfl,?_⟩) ?_
  rotate_left
  ·intro W hSw;obtain⟨s1,s2,s3⟩:=hSw;go_simp;try (with_reducible rfl)
  try simp only[Act.put,sA,sZ,sS]
  refine tk (i:=14) (oi:=⟨some 34,_,_,_,_,_⟩) (v:=?_) rfl (Or.inl ⟨by rfl,?_⟩) ?_
  rotate_left
  ·intro W hSw;obtain⟨s1,s2,s3⟩:=hSw;go_simp;try (with_reducible rfl)
  try simp only[Act.put,sA,sZ,sS]
  refine wpAnyH_ready (rs:=[16]) (by kernel_rfl) (by simp) ?_
  refine AllReadyH.cons (o:=⟨none,_,_,_,_,_⟩) rfl (fun KK hKK=>?_) AllReadyH.nil
  split
  ·refine wp_store_row 74 (.tmp 6) (.tmp 33) rfl g6 (recL rs rr rm rK (.slice F rn c2)).toArray rfl rfl 74 zR Z3.out (recInfo _ _ _ _ _) rfl (by simp[Value.oneCell']) ?_
   have bF:=yH (below_setRow b3.out hge (recL rs rr rm rK (.slice F rn c2)).toArray)
   refine hKK.out _ _ (by exact(HS.out _ bF.out)) (fun hHeld=>?_)
   clear hKK KK
   try simp only[Act.put,sA,sZ,sS]
   refine tk (i:=17) (oi:=⟨some 7,_,_,_,_,_⟩) (v:=?_) rfl (Or.inl ⟨by rfl,?_⟩) ?_
   rotate_left
   ·intro W hSw;obtain⟨s1,s2,s3⟩:=hSw;go_simp;try (with_reducible rfl)
   try simp only[Act.put,sA,sZ,sS]
   refine wpAnyH_done (by kernel_rfl) ?_ _
   refine NoPanic.normal ?_
   have R6:=yH (show Blk (w3.setRow g6 (recL rs rr rm rK (.slice F rn c2)).toArray) g6 (recL rs rr rm rK (.slice F rn c2)) 74 from setRow_heap _ _ _ _ _ (0,0) Z3.out)
   have HP6:=yH (show Prs (w3.setRow g6 (recL rs rr rm rK (.slice F rn c2)).toArray) F rpl from by
    rcases Nat.eq_zero_or_pos rpl.length with h0|h0
    ·rw[List.eq_nil_of_length_eq_zero h0]
     exact Prs.nil _ _
    ·exact HP3.out.keptB (by rw[setRow_size];exact yR _) fun b off e hb=>setRow_other _ _ _ _ (prs_off HP3.out Z3.out b off e h0))
   have Z0:=yH ((bF.out.block w.heap.size (by omega)).trans Z1.out)
   have hlt0:w.heap.size<W1.heap.size:=by omega
   generalize w3.setRow g6 (recL rs rr rm rK (.slice F rn c2)).toArray=w6 at*
   clear HR HS Z3 HP3 D1 b2 b3
   go_wp2_with(first
    |((with_reducible apply at_slot 35);refine wpList_load_row rfl 74 (.tmp 6) rfl g6 rfl 74 (recL rs rr rm rK (.slice F rn c2)).toArray (0,0) _ R6.out Tryz.underlying74 rfl (recInfo _ _ _ _ _) ?_)
    |((with_reducible apply at_store (.tmp 4) (.tmp 35));refine wpList_store_row rfl 74 (.tmp 4) (.tmp 35) rfl w.heap.size (recL rs rr rm rK (.slice F rn c2)).toArray rfl rfl 74 zR Z0.out (recInfo _ _ _ _ _) rfl (by simp[Value.oneCell']) ?_)
    |fail)
   refine bodyPost_ret (v:= .tuple #[.agg (recL rs rr rm rK (.slice F rn c2)).toArray,.bool true]) (by exact res_row Tryz.results44 _ _ w.heap.size 74 _ (0,0) _ _ rfl rfl (setRow_heap _ _ _ _ _ (0,0) Z0.out) Tryz.underlying74 rfl (recInfo _ _ _ _ _)) rfl ?_
   refine⟨F,c2,rfl,?_,fun b off e=>by have h7:=HN.out b off e;have h8:W1.drew.heap.size=W1.heap.size:=rfl;omega,below_setRow (b1.out.trans (bF.out.mono (by omega))) (yR _) _⟩
   rcases Nat.eq_zero_or_pos rpl.length with h0|h0
   ·rw[List.eq_nil_of_length_eq_zero h0]
    exact Prs.nil _ _
   ·exact HP6.out.keptB (by rw[setRow_size];exact yR _) fun b off e hb=>setRow_other _ _ _ _ (prs_off HP6.out Z0.out b off e h0)
  ·next hno=>exact absurd (by rfl) hno
end Skc
namespace Zl
open Bytes8 Ga Gb Gf Gj Gm Ma Mb Mh Na Nc Nt Zj Rn Rr
open Go1 (hcode magicB)
def stH (m:Mk)(st:Int):HD:=HD.plus (Mk.head m st) (m.depth:Int)
def stL (m:Mk)(st:Int):List Int:=(stH m st).bytes 21++m.b.drop 272
theorem stH_N (m:Mk)(st:Int)(i:Nat)(hi:i<20):(stH m st).N i=if i=1 then(m.b.length:Int)-272 else m.h.N i:=imgH_N m i hi
theorem st_ok {m:Mk}(h:Img m){st:Int}(hs:0≤st∧st≤2):(stH m st).Ok 21:=by
 have k:=imgH_ok h
 exact {cp:=k.cp,ic:=k.ic,st:=by show -9223372036854775808≤st∧st≤9223372036854775807;omega,I:=k.I,ta:=k.ta,ti:=k.ti,te:=k.te,N:=k.N}
theorem st_len {m:Mk}(h:Img m)(st:Int):(stL m st).length=m.b.length:=by
 have:=h.lens
 unfold stL
 rw[List.length_append,HD.bytes_len,List.length_drop]
 omega
theorem st_says {m:Mk}(h:Img m){st:Int}(hs:0≤st∧st≤2):Says (hdOf (stL m st)) (stH m st):=
 hd_back (stH m st) (st_ok h hs) (by show 0≤st∧st<256;omega) (m.b.drop 272)
theorem st_fcode {m:Mk}(h:Img m){st:Int}(hs:0≤st∧st≤2)(N:Int):fcode (stH m st) N=fcode (imgH m) N:=by
 have e: ∀i,(stH m st).N i=(imgH m).N i:=fun i=>rfl
 have e2:stB (stH m st).st=stB (imgH m).st:=by
  show stB st=stB 1
  have:st=0∨st=1∨st=2:=by omega
  rcases this with h|h|h<;>subst h<;>rfl
 unfold fcode endV endB
 rw[e2]
 rfl
theorem st_hcode {m:Mk}(h:Img m){st:Int}(hs:0≤st∧st≤2):hcode (stL m st) m.b.length=0:=by
 have hl:=h.lens
 unfold hcode
 rw[if_neg (by omega),show magicB (stL m st)=true from magic_back _ _ _,if_neg (by simp),(st_says h hs).fcode,st_fcode h hs,img_fcode h _ (by omega)]
theorem st_end {m:Mk}(h:Img m){st:Int}(hs:0≤st∧st≤2):endV (hdOf (stL m st))=(m.b.length:Int)∧endB (hdOf (stL m st))=true:=by
 have s:=st_says h hs
 have e0:=(s.N 0 (by decide)).trans (stH_N m st 0 (by decide))
 have e1:=(s.N 1 (by decide)).trans (stH_N m st 1 (by decide))
 obtain⟨l1,l2,l3⟩:=h.lens
 rw[if_neg (by decide),h.hg.n0]at e0
 rw[if_pos rfl]at e1
 unfold endV endB
 rw[e0,e1]
 constructor
 ·split<;>omega
 ·simp;omega
end Zl
namespace Skd
open Bytes8 Blk8 Own8 OwnE Rows2 Ga Gb Ma Na Np Nr Ns Nt Rc Rn Rr Va Pr8 Jb Ska Skc
open Yg (NewIn res_row)
def Look (w:World)(gx:Nat)(n:Int)(c:Nat)(W:World):Prop:=Below w.heap.size w W∧Blk W w.heap.size [.pointer (some ⟨gx,0,none⟩)] 82∧Blk W (w.heap.size+1) [.int .u64 n] 27∧Blk W (w.heap.size+2) [.int .i64 (c:Int)] 3
theorem Look.below {w:World}{gx:Nat}{n:Int}{c:Nat}{W W':World}(h:Look w gx n c W)(hb:Below W.heap.size W W'):Look w gx n c W':=
 ⟨h.1.trans (hb.mono h.1.size),h.2.1.below hb h.2.1.lt,h.2.2.1.below hb h.2.2.1.lt,h.2.2.2.below hb h.2.2.2.lt⟩
theorem Look.one {w:World}{gx:Nat}{n:Int}{c:Nat}{W:World}(h:Look w gx n c W):Look w gx n (c+1) (W.setCell ⟨w.heap.size+2,0,none⟩ (.int .i64 ((c:Int)+1))):=by
 obtain⟨h1,h2,h3,h4⟩:=h
 refine⟨h1.setCell (p:=⟨w.heap.size+2,0,none⟩) (by show _≤w.heap.size+2;omega) _,?_,?_,?_⟩
 ·exact h2.far (p:=⟨w.heap.size+2,0,none⟩) (by show w.heap.size≠w.heap.size+2;omega) _
 ·exact h3.far (p:=⟨w.heap.size+2,0,none⟩) (by show w.heap.size+1≠w.heap.size+2;omega) _
 ·exact h4.set_ 0 _
attribute [local irreducible] HD.cells wpList Code.wp
theorem step_any {w:World}{gx m:Nat}{R:Nat→RecP}(ix:Idx w gx m R)(n:Int)(c:Nat)(hc:c≤1000)(W:World)(h:Look w gx n c W)(k:Nat)(hk:k<m):
 Calls Tryz.prog 90 #[.int .i64 (k:Int),.pointer (some ⟨w.heap.size+2,0,none⟩),.pointer (some ⟨w.heap.size,0,none⟩),.pointer (some ⟨w.heap.size+1,0,none⟩)] W fun e W'=>e= .returned (.bool (decide (n≤(R k).s)))∧Look w gx n (c+1) W'∧W.heap.size≤W'.heap.size:=by
 have HR:=yH fun(V:World) (hV:Below w.heap.size w V)=>irec_in (ix.below hV) k hk
 have h1:=h.one
 have HL1:=yH h1
 have kc:=h.2.2.2.cell (i:=0) rfl
 have fc:=h.2.2.2.frozen 0
 have hw1:IntKind.i64.wrap ((c:Int)+1)=(c:Int)+1:=by rw[IntKind.wrap_i64];omega
 have kx:=h1.2.1.cell (i:=0) rfl
 have hsz:(W.setCell ⟨w.heap.size+2,0,none⟩ (.int .i64 ((c:Int)+1))).heap.size=W.heap.size:=by simp
 have HSz:=yH hsz
 unfold ITell at HR
 clear ix h h1 hsz
 generalize R k=r at*
 obtain⟨rs,rr,rm,rK,rn,rpl⟩:=r
 dsimp only at*
 go_enter Tryz.func90,Tryz.ntmps90
 go_upto_region 2 with fail
 generalize W.setCell ⟨w.heap.size+2,0,none⟩ (.int .i64 ((c:Int)+1))=W1 at*
 clear kc fc hw1
 go_upto_region 3 with(first
  |(go_at_call 44;(refine(HR.out _ HL1.out.1).mono ?_);rintro e w2 ⟨F,c2,rfl,_,_,hb2⟩;have B2:=yH hb2;clear hb2)
  |((with_reducible apply at_store (.tmp 6) (.tmp 14));refine wpList_store_row rfl 74 (.tmp 6) (.tmp 14) rfl w2.heap.size (recL rs rr rm rK (.slice F rn c2)).toArray rfl rfl 74 zR (heap_alloc_new w2 _) (recInfo _ _ _ _ _) rfl (by simp[Value.oneCell']) ?_)
  |fail)
 have R3:=yH (show Blk ((w2.alloc (.cells zR 74)).setRow w2.heap.size (recL rs rr rm rK (.slice F rn c2)).toArray) w2.heap.size (recL rs rr rm rK (.slice F rn c2)) 74 from setRow_heap _ _ _ _ _ (0,0) (heap_alloc_new w2 _))
 have b3:=yH (show Below w2.heap.size w2 ((w2.alloc (.cells zR 74)).setRow w2.heap.size (recL rs rr rm rK (.slice F rn c2)).toArray)from below_setRow ((Below.refl _ _).alloc (yR _) _) (yR _) _)
 generalize (w2.alloc (.cells zR 74)).setRow w2.heap.size (recL rs rr rm rK (.slice F rn c2)).toArray=w3 at*
 have L3:=yH (HL1.out.below (B2.out.trans (b3.out.mono B2.out.size)))
 have hle:=Nat.le_trans B2.out.size b3.out.size
 rw[HSz.out]at hle
 have kr:=R3.out.cell (i:=0) rfl
 have kn:=L3.out.2.2.1.cell (i:=0) rfl
 clear HR HL1 HSz B2 b3 kx R3
 generalize w2.heap.size=g2 at*
 go_wp2_with fail
 go_ret
 exact⟨rfl,L3.out,hle⟩
def natI:Value→Nat
 | .int _ z=>z.toNat
 |_=>0
theorem search_any {w:World}{gx m:Nat}{R:Nat→RecP}(ix:Idx w gx m R)(n:Int)(w1:World)(h:Look w gx n 0 w1):
 Calls Tryz.prog 89 #[.int .i64 (m:Int),.func (.func 90) #[] #[.pointer (some ⟨w.heap.size+2,0,none⟩),.pointer (some ⟨w.heap.size,0,none⟩),.pointer (some ⟨w.heap.size+1,0,none⟩)]] w1 fun e W'=> ∃r c:Nat,e= .returned (.int .i64 (r:Int))∧IsFst (fun k=>decide (n≤(R k).s)) m r∧(∀D,m<2^D→c≤D)∧Look w gx n c W'∧w1.heap.size≤W'.heap.size:=by
 obtain⟨hm,_,hri,_⟩:=ix.facts
 have HSt:=yH fun(c:Nat) (hc:c≤1000) (W:World) (h:Look w gx n c W) (k:Nat) (hk:k<m)=>step_any ix n c hc W h k hk
 have hmo:=yH (show ∀a b,a≤b→b<m→(fun k=>decide (n≤(R k).s)) a=true→(fun k=>decide (n≤(R k).s)) b=true from fun a b hab hb h=>by
  have h':n≤(R a).s:=by simpa using h
  rcases Nat.eq_or_lt_of_le hab with e|e
  ·rw[←e];exact h
  ·have:=hri a b e hb
   show decide (n≤(R b).s)=true
   simp
   omega)
 have HL:=yH h
 have HS0:=yH (Halves.start (fun k=>decide (n≤(R k).s)) m)
 have HLe:=yH (yR w1.heap.size)
 clear ix h hri
 generalize hp:(fun k=>decide (n≤(R k).s))=p at*
 have hpe: ∀k,decide (n≤(R k).s)=p k:=fun k=>by rw[←hp]
 simp only[hpe]at HSt
 clear hp hpe
 go_enter Tryz.func89,Tryz.ntmps89
 go_wp2_with fail
 go_loopw [5,6] (fun iv jv wr=> ∃i j c:Nat,iv= .int .i64 (i:Int)∧jv= .int .i64 (j:Int)∧Hid (Halves p m i j c)∧Hid (Look w gx n c wr)∧Hid (w1.heap.size≤wr.heap.size)) (fun iv jv _=>natI jv-natI iv)
 case atStart=>exact⟨0,m,0,rfl,rfl,HS0,HL,HLe⟩
 case round=>
  clear HL HS0 HLe
  obtain⟨i,j,c,rfl,rfl,hH,hLk,hle⟩:=hrel
  have hij:=hH.out.1
  have hjm:=hH.out.2.1
  have hc20:=hH.out.few hm
  by_cases hlt:i<j
  ·have dd1:decide ((i:Int)<(j:Int))=true:=by simp;omega
   have hw1:IntKind.i64.wrap ((i:Int)+(j:Int))=((i+j:Nat):Int):=by rw[IntKind.wrap_i64];omega
   obtain⟨q,hqe⟩: ∃q,(i+j)/2=q:=⟨_,rfl⟩
   have hq:((i:Int)+(j:Int))/2=(q:Int):=by omega
   have hqm:q<m:=by omega
   have hq1:i≤q:=by omega
   have hq2:q<j:=by omega
   have hwq:IntKind.i64.wrap ((q:Int)+1)=((q+1:Nat):Int):=by rw[IntKind.wrap_i64];omega
   have HC:=yH (HSt.out c (by omega) wr hLk.out q hqm)
   have HLo:=yH (fun h=>hH.out.lo (hmo.out) hlt h)
   have HHi:=yH (fun h=>hH.out.hi hlt h)
   rw[hqe]at HLo HHi
   have HM:=yH (And.intro hq1 hq2)
   clear hqe HSt hmo hH hLk hq1 hq2 hij hjm hc20
   cases hp:p q with
   |true=>
    rw[hp]at HC
    have H2:=yH (HHi.out hp)
    clear hp HLo HHi
    go_wp2_with(first
     |(go_at_call 90;(refine HC.out.mono ?_);rintro e w2 ⟨rfl,hl2,hle2⟩;have L2:=yH hl2;have E2:=yH (Nat.le_trans hle.out hle2);clear hl2 hle2)
     |fail)
    go_roundw
    case rel=>exact⟨i,q,c+1,rfl,rfl,H2,L2,E2⟩
    case measure=>simp[natI];have:=HM.out;omega
   |false=>
    rw[hp]at HC
    have H2:=yH (HLo.out hp)
    clear hp HLo HHi
    go_wp2_with(first
     |(go_at_call 90;(refine HC.out.mono ?_);rintro e w2 ⟨rfl,hl2,hle2⟩;have L2:=yH hl2;have E2:=yH (Nat.le_trans hle.out hle2);clear hl2 hle2)
     |fail)
    go_roundw
    case rel=>exact⟨q+1,j,c+1,rfl,rfl,H2,L2,E2⟩
    case measure=>simp[natI];have:=HM.out;omega
  ·have dd1:decide ((i:Int)<(j:Int))=false:=by simp;omega
   obtain⟨h1,h2⟩:=hH.out.stop hlt
   have H12:=yH (And.intro h1 h2)
   clear h1 h2
   go_wp2_with fail
   go_ret
   exact⟨i,c,rfl,H12.out.1,H12.out.2,hLk.out,hle.out⟩
theorem Look.start (w:World)(gx:Nat)(n:Int):Look w gx n 0 (((w.alloc (.cells #[.pointer (some ⟨gx,0,none⟩)] 82)).alloc (.cells #[.int .u64 n] 27)).alloc (.cells #[.int .i64 0] 3)):=by
 have s1:(w.alloc (.cells #[.pointer (some ⟨gx,0,none⟩)] 82)).heap.size=w.heap.size+1:=by simp
 have s2:((w.alloc (.cells #[.pointer (some ⟨gx,0,none⟩)] 82)).alloc (.cells #[.int .u64 n] 27)).heap.size=w.heap.size+2:=by simp
 refine⟨(((Below.refl w.heap.size w).alloc (yR _) _).alloc (by omega) _).alloc (by omega) _,?_,?_,?_⟩
 ·exact((Blk.new w [.pointer (some ⟨gx,0,none⟩)] 82).alloc _).alloc _
 ·exact(Blk.new_at _ [.int .u64 n] 27 _ s1).alloc _
 ·exact Blk.new_at _ [.int .i64 0] 3 _ s2
theorem seq_any {w:World}{gx m:Nat}{R:Nat→RecP}(ix:Idx w gx m R)(n:Int):
 Calls Tryz.prog 41 #[.pointer (some ⟨gx,0,none⟩),.int .u64 n] w fun e w'=> ∃r c:Nat,e= .returned (.tuple #[.int .i64 (r:Int),.int .i64 (c:Int)])∧IsFst (fun k=>decide (n≤(R k).s)) m r∧(∀D,m<2^D→c≤D)∧Below w.heap.size w w':=by
 have HL:=yH (Look.start w gx n)
 have HSe:=yH fun(W:World) (h:Look w gx n 0 W)=>search_any ix n W h
 have HK:=yH fun(V:World) (hV:Below w.heap.size w V)=>show ∃GA mc,V.cell? ⟨gx,1,none⟩=some (.slice GA m mc)from by
  obtain⟨gf,gv,h,A,E,c,l,P,n,cp,out,cd,GA,mc,h1,h2,h3,h4,rfl⟩:=ix.below hV
  exact⟨GA,mc,h1.cell (i:=1) rfl⟩
 clear ix
 obtain⟨GA,mc,k1⟩:=HK.out _ HL.out.1
 have k0:=HL.out.2.1.cell (i:=0) rfl
 generalize (fun k=>decide (n≤(R k).s))=p at*
 have s1:(w.alloc (.cells #[.pointer (some ⟨gx,0,none⟩)] 82)).heap.size=w.heap.size+1:=by simp
 have s2:((w.alloc (.cells #[.pointer (some ⟨gx,0,none⟩)] 82)).alloc (.cells #[.int .u64 n] 27)).heap.size=w.heap.size+2:=by simp
 clear HK
 go_enter Tryz.func41,Tryz.ntmps41
 go_upto_region 2 with fail
 have HS3:=yH (HSe.out _ HL.out)
 clear HSe s1 s2
 generalize (((w.alloc (.cells #[.pointer (some ⟨gx,0,none⟩)] 82)).alloc (.cells #[.int .u64 n] 27)).alloc (.cells #[.int .i64 0] 3))=w3 at*
 go_upto_region 3 with(first
  |(go_at_call 89;(refine HS3.out.mono ?_);rintro e w4 ⟨r,c,rfl,hf,hD,hl4,hle4⟩;have H4:=yH (And.intro hf hD);have L4:=yH hl4;clear hf hD hl4 hle4)
  |fail)
 have kc:=L4.out.2.2.2.cell (i:=0) rfl
 clear HL k0 k1 HS3
 go_quiet (fail)
 have B5:=yH (L4.out.1.trans ((below_drewN (Below.refl w4.heap.size w4) nq).mono L4.out.1.size))
 go_wp2_with fail
 go_ret2
 exact⟨r,c,rfl,H4.out.1,H4.out.2,B5.out⟩
end Skd
namespace Jf
open Bytes8 Blk8 OwnE Ga Gb Ma Kf Na Np Nt Nu Rc Rr Va Dc
theorem own_range {w:World}{B n c:Nat}{A:Option Addr}{xs:List Value}(h:OwnE 74 20 w B A n c xs)(i:Nat)(hi:i<n): ∃b,A=some ⟨b,0,none⟩∧b<w.heap.size∧w.rangeAt b (i*20) ((xs.drop (20*i)).take 20):=by
 have hl:xs.length=n*20:=OwnE.len h
 obtain⟨b,e,_,hlt,_⟩:=OwnE.cell h (i:=20*i) (by omega)
 refine⟨b,e,hlt,fun j v hj=>?_⟩
 have hj2:j<20:=by
  have:=(List.getElem?_eq_some_iff.1 hj).1
  rw[List.length_take]at this;omega
 rw[List.getElem?_take_of_lt hj2,List.getElem?_drop]at hj
 rw[Nat.mul_comm i 20]
 obtain⟨b2,h1,_,_,h2⟩:=OwnE.cell h (i:=20*i+j) (List.getElem?_eq_some_iff.1 hj).1
 rw[e]at h1
 injection h1 with h1
 injection h1 with h1
 subst h1
 exact h2.trans hj
attribute [local irreducible] HD.cells wpList Code.wp
end Jf
end Go.Proofs.YtiddkgcafpaekaaGreat
