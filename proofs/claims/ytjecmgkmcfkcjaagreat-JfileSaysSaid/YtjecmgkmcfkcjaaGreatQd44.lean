/-
  Texts beneath the proof.
-/
import Derived.Test.YtjecmgkmcfkcjaaGreatQd43
set_option linter.unusedVariables false
set_option linter.unusedSimpArgs false
set_option maxRecDepth 100000
set_option maxHeartbeats 32000000
open Go.ChangeShapes Go.WideShapes Go.ChangeAt Go.RowKit
namespace Go.Proofs.YtjecmgkmcfkcjaaGreat
namespace JfileSaysW
open Bytes8 Blk8 Own8 OwnM OwnE Rows2 Ob Ga Gb Gj Ma Na Np Nr Ns Nt Nu Rc Rn Rp Rr Va Vg Wa Pr8 Ja Jb Jd Jg Jh Jj Jk
open Rq (samerec_yes)
open Ve (wpList_load_row_want)
open Go1 (hcode)
def natOf1:Value→Nat
 | .int _ z=>(z+1).toNat
 |_=>0
theorem ints_in1 {w:World}{b m c:Nat}{A:Option Addr}{L:List Nat}(h:OwnE 3 1 w b A m c (ints L))(hl:L.length=m)(hb: ∀x∈L,x≤1000000):InInts .i64 w A m (fun i=>((L.getD i 0:Nat):Int)):=fun i hi=>by
 obtain⟨g,e,_,hlt,hc⟩:=OwnE.cell h (i:=i) (by rw[List.length_map];omega)
 have e2:L.getD i 0=L[i]:=by simp[List.getElem?_eq_getElem (show i<L.length by omega)]
 refine⟨g,0,e,hlt,?_,?_⟩
 ·rw[Nat.zero_add]
  refine hc.trans ?_
  rw[List.getElem?_map,List.getElem?_eq_getElem (by omega)]
  simp[List.getElem?_eq_getElem (show i<L.length by omega)]
 ·have:=hb L[i] (List.getElem_mem _)
  show(Lit.int .i64 ((L.getD i 0:Nat):Int)).wf=true
  rw[e2]
  simp[Lit.wf,IntKind.min,IntKind.max,IntKind.signed,IntKind.bits]
  omega
theorem goodL_le (h:HD)(l:List Int)(E:Nat)(out:List Int)(n:Nat)(hn:n≤800000):(∀x∈goodL h l E out n,x≤1000000)∧(goodL h l E out n).length≤1000000:=by
 obtain⟨h1,h2,_⟩:=goodR_spec (jC h l E out) (fun x=>(jR h l E out x).s) n
 exact⟨fun x hx=>by have:=(h1 x hx).1;omega,Nat.le_trans h2 (by omega)⟩
theorem same_made {w w':World}{b b2 m m2 c c2:Nat}{A A2:Option Addr}{L:List Nat}(h:OwnE 3 1 w b A m c (ints L))(hl:L.length=m)(h2:OwnE 3 1 w' b2 A2 m2 c2 (ints L))(hl2:L.length=m2)(hb:Below w.heap.size w w')(g1: ∀x∈L,x≤1000000)(g2:L.length≤1000000):
 Calls Tryz.prog 46 #[.slice A m c,.slice A2 m2 c2] w' fun e w2=>e= .returned (.bool true)∧Below w'.heap.size w' w2:=by
 have e:m2=m:=by omega
 subst e
 refine(Srq.same_ints A A2 (fun i=>((L.getD i 0:Nat):Int)) m2 c c2 w' (ints_in1 (h.kept hb (Nat.le_refl _)) hl g1) (ints_in1 h2 hl2 g1) (by omega)).mono ?_
 rintro e w2 ⟨rfl,q,rfl⟩
 exact⟨rfl,below_drewN (Below.refl _ _) q⟩
attribute [local irreducible] HD.cells wpList Code.wp
theorem walk_main (a:Option Addr)(len cap:Nat)(f:Nat→Int)(P:Option Addr)(k kc:Nat)(g:Nat→Int)(by_:Int)(nq:Int)(w:World)(hI:InInts .i64 w a len f)(hl:len≤120)(hP:InInts .i64 w P k g)(hk:k≤8)(hy:0≤by_∧by_<256):
 Calls Tryz.prog 7 #[.slice a len cap,.slice P k kc,.int .u8 by_,.int .i64 nq] w fun e w'=>e= .returned (.bool true)∧Below w.heap.size w w':=by
 have d1:decide ((120:Int)<(len:Int))=false:=by simp;omega
 have d2:decide ((8:Int)<(k:Int))=false:=by simp;omega
 have HI:=Lib.hid hI
 have HP:=Lib.hid hP
 clear hI hP
 go_enter Tryz.func7,Tryz.ntmps7
 go_upto_region 6 with(go_at_call 41;((with_reducible refine(first_jfile _).mono ?_);rintro e w1 ⟨rfl,hb1⟩;have B1:=Lib.hid hb1;clear hb1))
 clear d1 d2
 have HIm:=Lib.hid (image_made a len cap f 12 w1 (HI.out.below B1.out) (by omega) (by decide))
 unfold Imaged at HIm
 have HP1:=Lib.hid (HP.out.below B1.out)
 go_upto_region 7 with(first
  |(go_at_call 14;((refine HIm.out.mono ?_);rintro e w2 ⟨A0,c0,m,rfl,hg2,ho2,hb2⟩;have hlen:=hg2.img.lens;have HO2:=Lib.hid ho2;have B2:=Lib.hid (B1.out.trans (hb2.mono B1.out.size));have HSp:=Lib.hid (spoil_any A0 m.b.length c0 (imgB m) P k kc g by_ w2 ho2.bytes (imgB_len hg2.img) (by omega) (HP1.out.below hb2) (by omega) hy);clear hg2 ho2 hb2))
  |(go_at_call 13;((refine HSp.out.mono ?_);rintro e w3 ⟨A,c,l,rfl,hl3,ho3,hb3⟩;have HO:=Lib.hid ho3;have B3:=Lib.hid (B2.out.trans (hb3.mono B2.out.size));clear ho3 hb3))
  |fail)
 generalize m.b.length=n at*
 have hb:=HO.out.bytes
 have hcap:=own_cap HO.out
 have HB:=Lib.hid hb
 have hL:l.length=n:=hl3
 clear HIm HP HP1 HI HSp HO2 B1 B2 HO hl3
 by_cases hz:hcode l n=0
 ·have hok:=hdOf_ok hb.1 21
  obtain⟨E,hE,hEB,hEn⟩:=fine_end hz hok
  have HOp:=Lib.hid fun(W:World) (hW:Bytes W A l)=>jopen_fine l A n c W hW hL (by omega) hcap.1 hz E hE hEB hEn hok
  have HQ:=Lib.hid fun(W:World) (hW:Bytes W A l)=>ropen15_fine l A n c W hW hL (by omega) hcap.1 hz E hE hEB hEn hok
  unfold JOpened at HOp
  unfold ROpened at HQ
  have HAl:=Lib.hid (hb.1.take E)
  clear hb hz hE hEB hok
  generalize hdOf l=H at*
  generalize Ob.u8 l 248=dp at*
  generalize chase H (l.take E) E (H.N 8) 14 2 (E+1) [] (H.N 11).toNat 0=R at*
  obtain⟨out,cd⟩:=R
  dsimp only at*
  generalize l.take E=lE at*
  go_upto_region 8 with(first
   |(go_at_call 42;((refine(HOp.out _ HB.out).mono ?_);rintro e w4 ⟨gf,gv,Av,cv,Pp,np,cp,rfl,hf,hb4⟩;have HF4:=Lib.hid hf;have B4:=Lib.hid (B3.out.trans (hb4.mono B3.out.size));have HB4:=Lib.hid (HB.out.below hb4 (Nat.le_refl _));clear hf hb4))
   |fail)
  go_upto_region 13 with(first
   |(go_at_call 43;((refine(HQ.out _ HB4.out).mono ?_);rintro e w5 ⟨gr,gw,Aw,cw,Pq,np2,cq2,rfl,hr,hb5⟩;have HR:=Lib.hid hr;have HF:=Lib.hid (HF4.out.below hb5);have B5:=Lib.hid (B4.out.trans (hb5.mono B4.out.size));clear hr hb5))
   |fail)
  have hnp:np=np2:=by have h1:=HF.out.len;have h2:=HR.out.len;omega
  subst hnp
  clear HOp HQ HB HB4 B3 B4 HF4
  have hnb:=HF.out.nb
  obtain⟨gl1,gl2⟩:=goodL_le H lE E out np hnb
  have HL:=Lib.hid fun(W:World) (hW:Below w5.heap.size w5 W)=>len_any (HF.out.below hW)
  have HC:=Lib.hid fun(W:World) (hW:Below w5.heap.size w5 W)=>code_any (HF.out.below hW)
  have HV:=Lib.hid fun(W:World) (hW:Below w5.heap.size w5 W)=>view_any (HF.out.below hW)
  have HG:=Lib.hid fun(W:World) (hW:Below w5.heap.size w5 W)=>good_any (HF.out.below hW)
  have HGr:=Lib.hid fun(W:World) (hW:Below w5.heap.size w5 W)=>rgood_any (HR.out.below hW)
  have HRj:=Lib.hid fun(kk:Int) (W:World) (hW:Below w5.heap.size w5 W)=>jrec_any (HF.out.below hW) kk
  have HRr:=Lib.hid fun(kk:Int) (W:World) (hW:Below w5.heap.size w5 W)=>rrec_any (HR.out.below hW) kk
  have HOk:=Lib.hid fun(kk:Int)=>(pR_ok HAl.out:(pR H lE E out np kk).Ok)
  have HK:=Lib.hid fun(W:World) (hW:Below w5.heap.size w5 W)=>show W.cell? ⟨gr,1,none⟩=some (.slice Pq np cq2)∧W.cell? ⟨gr,2,none⟩=some (.int .i64 cd)from⟨(HR.out.below hW).blk.cell (i:=1) rfl,(HR.out.below hW).blk.cell (i:=2) rfl⟩
  generalize hgl:goodL H lE E out np=GL at*
  have S5:=Lib.hid (Below.refl w5.heap.size w5)
  obtain⟨i0,i1⟩:=HK.out _ S5.out
  have D5:=Lib.hid (show Below w5.heap.size w5 w5.drew from S5.out.drew)
  have hne1:((np:Int)!=(np:Int))=false:=by simp
  have hne2:(cd !=cd)=false:=by simp
  go_region_held3 (fun W=>W.cell? ⟨gr,1,none⟩=some (.slice Pq np cq2)∧W.cell? ⟨gr,2,none⟩=some (.int .i64 cd)) (first|(with_reducible exact⟨i0,i1⟩)|(with_reducible exact⟨p0,p1⟩)|(with_reducible exact⟨q0,q1⟩)|(with_reducible exact⟨r0,r1⟩)|go_keep) (first
   |(go_at_call 44;(refine(HL.out _ D5.out).mono ?_);rintro e y1 ⟨rfl,rfl⟩)
   |(go_at_call 45;(refine(HC.out _ D5.out).mono ?_);rintro e y1 ⟨rfl,rfl⟩)
   |(go_at_call 47;(refine(HG.out _ D5.out).mono ?_);rintro e w6 ⟨A6,m6,c6,rfl,ho6,hl6,hb6⟩;have B6:=Lib.hid (D5.out.trans (hb6.mono D5.out.size));have O6:=Lib.hid ho6;obtain⟨p0,p1⟩:=HK.out _ B6.out;clear ho6 hb6)
   |(go_at_call 48;(refine(HGr.out _ B6.out).mono ?_);rintro e w7 ⟨A7,m7,c7,rfl,ho7,hl7,hb7⟩;have B7:=Lib.hid (B6.out.trans (hb7.mono B6.out.size));have HS7:=Lib.hid (same_made O6.out hl6 (ho7) hl7 hb7 gl1 gl2);obtain⟨q0,q1⟩:=HK.out _ B7.out;clear ho7 hb7)
   |(go_at_call 46;(refine HS7.out.mono ?_);rintro e w8 ⟨rfl,hb8⟩;have B8:=Lib.hid (B7.out.trans (hb8.mono B7.out.size));obtain⟨r0,r1⟩:=HK.out _ B8.out;clear hb8)
   |(go_at_call 49;(refine(HV.out _ B8.out).mono ?_);rintro e y2 ⟨rfl,rfl⟩)
   |fail)
  clear HL HC HV HG HGr hgl O6 HS7 p0 p1 q0 q1 r0 r1 i0 i1 gl1 gl2 hl6 hl7 hne1 hne2 D5 S5 B6 B7
  go_wp2_with fail
  go_loopw [15] (fun i wr=> ∃z:Int,-1≤z∧z≤(np:Int)+1∧i= .int .i64 z∧Hid (Below w5.heap.size w5 wr)) (fun i _=>np+2-natOf1 i)
  case atStart=>exact⟨-1,by omega,by omega,rfl,B8⟩
  case round=>
   clear B8
   obtain⟨z,hz1,hz2,rfl,hB⟩:=hrel
   obtain⟨kr0,kr2⟩:=HK.out _ hB.out
   by_cases hlt:z≤(np:Int)
   ·have dd1:decide (z≤(np:Int))=true:=by simp;omega
    have hwz:IntKind.i64.wrap (z+1)=z+1:=by rw[IntKind.wrap_i64];omega
    by_cases h0:z<0
    ·have dz:decide (z<0)=true:=by simp;omega
     go_upto_region 21 with fail
     clear kr0 kr2 dd1 dz
     by_cases hx:inR np nq
     ·obtain⟨x,hxk⟩: ∃x:Nat,nq=(x:Int):=⟨nq.toNat,by have:=hx.1;omega⟩
      subst hxk
      replace hx:x<np:=by have:=hx.2;omega
      have HJ:=Lib.hid (HRj.out (x:Int) wr hB.out)
      have HJ2:=Lib.hid fun(W:World) (hW:Below w5.heap.size w5 W)=>HRr.out (x:Int) W hW
      have HOkq:=Lib.hid (HOk.out (x:Int))
      unfold TellR at HJ HJ2
      clear HRj HRr HOk HK
      generalize pR H lE E out np (x:Int)=q at*
      generalize pC H lE E out np (x:Int)=cq at*
      go_upto_region 22 with(first
       |(go_at_call 50;(refine HJ.out.mono ?_);rintro e y1 ⟨F1,e1,rfl,hp1,hb1⟩;have HP1:=Lib.hid hp1;have C1:=Lib.hid (hB.out.trans (hb1.mono hB.out.size));clear hp1 hb1)
       |((with_reducible apply at_store (.tmp 17) (.tmp 110));refine wpList_store_row rfl 64 (.tmp 17) (.tmp 110) rfl y1.heap.size (recL q.s q.r q.m q.K (.slice F1 q.n e1)).toArray rfl rfl 64 zR (heap_alloc_new y1 _) (recInfo _ _ _ _ _) rfl (recL_all _ _ _ _ _ _ _) ?_)
       |fail)
      have Ra1:=Lib.hid (show Blk ((y1.alloc (.cells zR 64)).setRow y1.heap.size (recL q.s q.r q.m q.K (.slice F1 q.n e1)).toArray) y1.heap.size (recL q.s q.r q.m q.K (.slice F1 q.n e1)) 64 from setRow_heap _ _ _ _ _ (0,0) (heap_alloc_new y1 _))
      have Bb1:=Lib.hid (show Below y1.heap.size y1 ((y1.alloc (.cells zR 64)).setRow y1.heap.size (recL q.s q.r q.m q.K (.slice F1 q.n e1)).toArray)from below_setRow ((Below.refl _ _).alloc (Nat.le_refl _) _) (Nat.le_refl _) _)
      generalize (y1.alloc (.cells zR 64)).setRow y1.heap.size (recL q.s q.r q.m q.K (.slice F1 q.n e1)).toArray=y2 at*
      have C2:=Lib.hid (C1.out.trans (Bb1.out.mono C1.out.size))
      have HP2:=Lib.hid (HP1.out.below Bb1.out)
      have hlt1:=Ra1.out.lt
      generalize y1.heap.size=s17 at*
      clear HP1 Bb1 HJ C1
      go_upto_region 23 with(first
       |(go_at_call 51;(refine(HJ2.out y2 C2.out).mono ?_);rintro e y3 ⟨F3,e3,rfl,hp3,hb3⟩;have HP3:=Lib.hid hp3;have HP23:=Lib.hid (HP2.out.below hb3);have Ra3:=Lib.hid (Ra1.out.below hb3 hlt1);have C3:=Lib.hid (C2.out.trans (hb3.mono C2.out.size));have hlt3:=Nat.lt_of_lt_of_le hlt1 hb3.size;clear hp3 hb3)
       |((with_reducible apply at_store (.tmp 19) (.tmp 116));refine wpList_store_row rfl 64 (.tmp 19) (.tmp 116) rfl y3.heap.size (recL q.s q.r q.m q.K (.slice F3 q.n e3)).toArray rfl rfl 64 zR (heap_alloc_new y3 _) (recInfo _ _ _ _ _) rfl (recL_all _ _ _ _ _ _ _) ?_)
       |fail)
      have Rb4:=Lib.hid (show Blk ((y3.alloc (.cells zR 64)).setRow y3.heap.size (recL q.s q.r q.m q.K (.slice F3 q.n e3)).toArray) y3.heap.size (recL q.s q.r q.m q.K (.slice F3 q.n e3)) 64 from setRow_heap _ _ _ _ _ (0,0) (heap_alloc_new y3 _))
      have Bb4:=Lib.hid (show Below y3.heap.size y3 ((y3.alloc (.cells zR 64)).setRow y3.heap.size (recL q.s q.r q.m q.K (.slice F3 q.n e3)).toArray)from below_setRow ((Below.refl _ _).alloc (Nat.le_refl _) _) (Nat.le_refl _) _)
      generalize (y3.alloc (.cells zR 64)).setRow y3.heap.size (recL q.s q.r q.m q.K (.slice F3 q.n e3)).toArray=y4 at*
      have Ra4:=Lib.hid (Ra3.out.below Bb4.out hlt3)
      have C4:=Lib.hid (C3.out.trans (Bb4.out.mono C3.out.size))
      have HPa:=Lib.hid (HP23.out.below Bb4.out)
      have HPb:=Lib.hid (HP3.out.below Bb4.out)
      generalize y3.heap.size=s19 at*
      clear HP2 HP3 HP23 Bb4 HJ2 Ra1 Ra3 C2 C3 hlt1 hlt3
      have HSr:=Lib.hid (samerec_yes q.s q.r q.m q.K HOkq.out.K F1 F3 q.n e1 e3 q.pl y4 HPa.out HPb.out HOkq.out.len HOkq.out.n)
      have HFr4:=HR.out.below C4.out
      have kr1:=HFr4.blk.cell (i:=1) rfl
      have HA4:=Lib.hid (at_in (HF.out.below C4.out) x hx)
      obtain⟨bP,oP,rfl,hbP,hcP,_⟩:=HFr4.ints x hx
      dsimp only at hcP
      generalize out.getD x 0=y at*
      go_upto_region 24 with(first
       |(go_at_call 52;(refine HA4.out.mono ?_);rintro e y5 ⟨rfl,rfl⟩)
       |fail)
      clear HA4 HFr4
      have hcq:(cq !=cq)=false:=by simp
      have f1:decide ((0:Int)≤(x:Int))=true:=by simp
      have f2:decide ((x:Int)<(np:Int))=true:=by simp;omega
      have f3:(y !=y)=false:=by simp
      have f4:(x:Int)<(np:Int):=by omega
      go_upto_region 26 with(first
       |((with_reducible apply at_slot 128);refine wpList_load_row_want rfl 64 (.tmp 17) rfl s17 rfl 64 (recL q.s q.r q.m q.K (.slice F1 q.n e1)).toArray (0,0) _ Ra4.out Tryz.underlying64 rfl (recInfo _ _ _ _ _) ?_)
       |((with_reducible apply at_slot 129);refine wpList_load_row_want rfl 64 (.tmp 19) rfl s19 rfl 64 (recL q.s q.r q.m q.K (.slice F3 q.n e3)).toArray (0,0) _ Rb4.out Tryz.underlying64 rfl (recInfo _ _ _ _ _) ?_)
       |(go_at_call 53;(refine HSr.out.mono ?_);rintro e y6 ⟨rfl,hb6⟩;have C6:=Lib.hid (C4.out.trans (hb6.mono C4.out.size));have kr6:=(HR.out.below C6.out).blk.cell (i:=1) rfl;have hcP6:=(hb6.cell (p:=⟨bP,oP+x,none⟩) hbP).trans hcP;clear hb6)
       |fail)
      go_wp2_with fail
      go_roundw
      case rel=>exact⟨z+1,by omega,by omega,by simp,C6⟩
      case measure=>simp[natOf1];omega
     ·by_cases hn0:nq<0
      ·have f1:decide ((0:Int)≤nq)=false:=by simp;omega
       have HJ:=Lib.hid (HRj.out nq wr hB.out)
       have HJ2:=Lib.hid fun(W:World) (hW:Below w5.heap.size w5 W)=>HRr.out nq W hW
       have HOkq:=Lib.hid (HOk.out nq)
       unfold TellR at HJ HJ2
       clear HRj HRr HOk HK
       generalize pR H lE E out np nq=q at*
       generalize pC H lE E out np nq=cq at*
       go_upto_region 22 with(first
        |(go_at_call 50;(refine HJ.out.mono ?_);rintro e y1 ⟨F1,e1,rfl,hp1,hb1⟩;have HP1:=Lib.hid hp1;have C1:=Lib.hid (hB.out.trans (hb1.mono hB.out.size));clear hp1 hb1)
        |((with_reducible apply at_store (.tmp 17) (.tmp 110));refine wpList_store_row rfl 64 (.tmp 17) (.tmp 110) rfl y1.heap.size (recL q.s q.r q.m q.K (.slice F1 q.n e1)).toArray rfl rfl 64 zR (heap_alloc_new y1 _) (recInfo _ _ _ _ _) rfl (recL_all _ _ _ _ _ _ _) ?_)
        |fail)
       have Ra1:=Lib.hid (show Blk ((y1.alloc (.cells zR 64)).setRow y1.heap.size (recL q.s q.r q.m q.K (.slice F1 q.n e1)).toArray) y1.heap.size (recL q.s q.r q.m q.K (.slice F1 q.n e1)) 64 from setRow_heap _ _ _ _ _ (0,0) (heap_alloc_new y1 _))
       have Bb1:=Lib.hid (show Below y1.heap.size y1 ((y1.alloc (.cells zR 64)).setRow y1.heap.size (recL q.s q.r q.m q.K (.slice F1 q.n e1)).toArray)from below_setRow ((Below.refl _ _).alloc (Nat.le_refl _) _) (Nat.le_refl _) _)
       generalize (y1.alloc (.cells zR 64)).setRow y1.heap.size (recL q.s q.r q.m q.K (.slice F1 q.n e1)).toArray=y2 at*
       have C2:=Lib.hid (C1.out.trans (Bb1.out.mono C1.out.size))
       have HP2:=Lib.hid (HP1.out.below Bb1.out)
       have hlt1:=Ra1.out.lt
       generalize y1.heap.size=s17 at*
       clear HP1 Bb1 HJ C1
       go_upto_region 23 with(first
        |(go_at_call 51;(refine(HJ2.out y2 C2.out).mono ?_);rintro e y3 ⟨F3,e3,rfl,hp3,hb3⟩;have HP3:=Lib.hid hp3;have HP23:=Lib.hid (HP2.out.below hb3);have Ra3:=Lib.hid (Ra1.out.below hb3 hlt1);have C3:=Lib.hid (C2.out.trans (hb3.mono C2.out.size));have hlt3:=Nat.lt_of_lt_of_le hlt1 hb3.size;clear hp3 hb3)
        |((with_reducible apply at_store (.tmp 19) (.tmp 116));refine wpList_store_row rfl 64 (.tmp 19) (.tmp 116) rfl y3.heap.size (recL q.s q.r q.m q.K (.slice F3 q.n e3)).toArray rfl rfl 64 zR (heap_alloc_new y3 _) (recInfo _ _ _ _ _) rfl (recL_all _ _ _ _ _ _ _) ?_)
        |fail)
       have Rb4:=Lib.hid (show Blk ((y3.alloc (.cells zR 64)).setRow y3.heap.size (recL q.s q.r q.m q.K (.slice F3 q.n e3)).toArray) y3.heap.size (recL q.s q.r q.m q.K (.slice F3 q.n e3)) 64 from setRow_heap _ _ _ _ _ (0,0) (heap_alloc_new y3 _))
       have Bb4:=Lib.hid (show Below y3.heap.size y3 ((y3.alloc (.cells zR 64)).setRow y3.heap.size (recL q.s q.r q.m q.K (.slice F3 q.n e3)).toArray)from below_setRow ((Below.refl _ _).alloc (Nat.le_refl _) _) (Nat.le_refl _) _)
       generalize (y3.alloc (.cells zR 64)).setRow y3.heap.size (recL q.s q.r q.m q.K (.slice F3 q.n e3)).toArray=y4 at*
       have Ra4:=Lib.hid (Ra3.out.below Bb4.out hlt3)
       have C4:=Lib.hid (C3.out.trans (Bb4.out.mono C3.out.size))
       have HPa:=Lib.hid (HP23.out.below Bb4.out)
       have HPb:=Lib.hid (HP3.out.below Bb4.out)
       generalize y3.heap.size=s19 at*
       clear HP2 HP3 HP23 Bb4 HJ2 Ra1 Ra3 C2 C3 hlt1 hlt3
       have HSr:=Lib.hid (samerec_yes q.s q.r q.m q.K HOkq.out.K F1 F3 q.n e1 e3 q.pl y4 HPa.out HPb.out HOkq.out.len HOkq.out.n)
       have HFr4:=HR.out.below C4.out
       have kr1:=HFr4.blk.cell (i:=1) rfl
       have HA4:=Lib.hid (at_out (HF.out.below C4.out) nq (by omega))
       go_upto_region 24 with(first
        |(go_at_call 52;(refine HA4.out.mono ?_);rintro e y5 ⟨rfl,rfl⟩)
        |fail)
       clear HA4 HFr4
       have hcq:(cq !=cq)=false:=by simp
       go_upto_region 26 with(first
        |((with_reducible apply at_slot 128);refine wpList_load_row_want rfl 64 (.tmp 17) rfl s17 rfl 64 (recL q.s q.r q.m q.K (.slice F1 q.n e1)).toArray (0,0) _ Ra4.out Tryz.underlying64 rfl (recInfo _ _ _ _ _) ?_)
        |((with_reducible apply at_slot 129);refine wpList_load_row_want rfl 64 (.tmp 19) rfl s19 rfl 64 (recL q.s q.r q.m q.K (.slice F3 q.n e3)).toArray (0,0) _ Rb4.out Tryz.underlying64 rfl (recInfo _ _ _ _ _) ?_)
        |(go_at_call 53;(refine HSr.out.mono ?_);rintro e y6 ⟨rfl,hb6⟩;have C6:=Lib.hid (C4.out.trans (hb6.mono C4.out.size));have kr6:=(HR.out.below C6.out).blk.cell (i:=1) rfl;clear hb6)
        |fail)
       go_wp2_with fail
       go_roundw
       case rel=>exact⟨z+1,by omega,by omega,by simp,C6⟩
       case measure=>simp[natOf1];omega
      ·have hnp:(np:Int)≤nq:=by omega
       have f1:decide ((0:Int)≤nq)=true:=by simp;omega
       have f2:decide (nq<(np:Int))=false:=by simp;omega
       have HJ:=Lib.hid (HRj.out nq wr hB.out)
       have HJ2:=Lib.hid fun(W:World) (hW:Below w5.heap.size w5 W)=>HRr.out nq W hW
       have HOkq:=Lib.hid (HOk.out nq)
       unfold TellR at HJ HJ2
       clear HRj HRr HOk HK
       generalize pR H lE E out np nq=q at*
       generalize pC H lE E out np nq=cq at*
       go_upto_region 22 with(first
        |(go_at_call 50;(refine HJ.out.mono ?_);rintro e y1 ⟨F1,e1,rfl,hp1,hb1⟩;have HP1:=Lib.hid hp1;have C1:=Lib.hid (hB.out.trans (hb1.mono hB.out.size));clear hp1 hb1)
        |((with_reducible apply at_store (.tmp 17) (.tmp 110));refine wpList_store_row rfl 64 (.tmp 17) (.tmp 110) rfl y1.heap.size (recL q.s q.r q.m q.K (.slice F1 q.n e1)).toArray rfl rfl 64 zR (heap_alloc_new y1 _) (recInfo _ _ _ _ _) rfl (recL_all _ _ _ _ _ _ _) ?_)
        |fail)
       have Ra1:=Lib.hid (show Blk ((y1.alloc (.cells zR 64)).setRow y1.heap.size (recL q.s q.r q.m q.K (.slice F1 q.n e1)).toArray) y1.heap.size (recL q.s q.r q.m q.K (.slice F1 q.n e1)) 64 from setRow_heap _ _ _ _ _ (0,0) (heap_alloc_new y1 _))
       have Bb1:=Lib.hid (show Below y1.heap.size y1 ((y1.alloc (.cells zR 64)).setRow y1.heap.size (recL q.s q.r q.m q.K (.slice F1 q.n e1)).toArray)from below_setRow ((Below.refl _ _).alloc (Nat.le_refl _) _) (Nat.le_refl _) _)
       generalize (y1.alloc (.cells zR 64)).setRow y1.heap.size (recL q.s q.r q.m q.K (.slice F1 q.n e1)).toArray=y2 at*
       have C2:=Lib.hid (C1.out.trans (Bb1.out.mono C1.out.size))
       have HP2:=Lib.hid (HP1.out.below Bb1.out)
       have hlt1:=Ra1.out.lt
       generalize y1.heap.size=s17 at*
       clear HP1 Bb1 HJ C1
       go_upto_region 23 with(first
        |(go_at_call 51;(refine(HJ2.out y2 C2.out).mono ?_);rintro e y3 ⟨F3,e3,rfl,hp3,hb3⟩;have HP3:=Lib.hid hp3;have HP23:=Lib.hid (HP2.out.below hb3);have Ra3:=Lib.hid (Ra1.out.below hb3 hlt1);have C3:=Lib.hid (C2.out.trans (hb3.mono C2.out.size));have hlt3:=Nat.lt_of_lt_of_le hlt1 hb3.size;clear hp3 hb3)
        |((with_reducible apply at_store (.tmp 19) (.tmp 116));refine wpList_store_row rfl 64 (.tmp 19) (.tmp 116) rfl y3.heap.size (recL q.s q.r q.m q.K (.slice F3 q.n e3)).toArray rfl rfl 64 zR (heap_alloc_new y3 _) (recInfo _ _ _ _ _) rfl (recL_all _ _ _ _ _ _ _) ?_)
        |fail)
       have Rb4:=Lib.hid (show Blk ((y3.alloc (.cells zR 64)).setRow y3.heap.size (recL q.s q.r q.m q.K (.slice F3 q.n e3)).toArray) y3.heap.size (recL q.s q.r q.m q.K (.slice F3 q.n e3)) 64 from setRow_heap _ _ _ _ _ (0,0) (heap_alloc_new y3 _))
       have Bb4:=Lib.hid (show Below y3.heap.size y3 ((y3.alloc (.cells zR 64)).setRow y3.heap.size (recL q.s q.r q.m q.K (.slice F3 q.n e3)).toArray)from below_setRow ((Below.refl _ _).alloc (Nat.le_refl _) _) (Nat.le_refl _) _)
       generalize (y3.alloc (.cells zR 64)).setRow y3.heap.size (recL q.s q.r q.m q.K (.slice F3 q.n e3)).toArray=y4 at*
       have Ra4:=Lib.hid (Ra3.out.below Bb4.out hlt3)
       have C4:=Lib.hid (C3.out.trans (Bb4.out.mono C3.out.size))
       have HPa:=Lib.hid (HP23.out.below Bb4.out)
       have HPb:=Lib.hid (HP3.out.below Bb4.out)
       generalize y3.heap.size=s19 at*
       clear HP2 HP3 HP23 Bb4 HJ2 Ra1 Ra3 C2 C3 hlt1 hlt3
       have HSr:=Lib.hid (samerec_yes q.s q.r q.m q.K HOkq.out.K F1 F3 q.n e1 e3 q.pl y4 HPa.out HPb.out HOkq.out.len HOkq.out.n)
       have HFr4:=HR.out.below C4.out
       have kr1:=HFr4.blk.cell (i:=1) rfl
       have HA4:=Lib.hid (at_out (HF.out.below C4.out) nq (by omega))
       go_upto_region 24 with(first
        |(go_at_call 52;(refine HA4.out.mono ?_);rintro e y5 ⟨rfl,rfl⟩)
        |fail)
       clear HA4 HFr4
       have hcq:(cq !=cq)=false:=by simp
       go_upto_region 26 with(first
        |((with_reducible apply at_slot 128);refine wpList_load_row_want rfl 64 (.tmp 17) rfl s17 rfl 64 (recL q.s q.r q.m q.K (.slice F1 q.n e1)).toArray (0,0) _ Ra4.out Tryz.underlying64 rfl (recInfo _ _ _ _ _) ?_)
        |((with_reducible apply at_slot 129);refine wpList_load_row_want rfl 64 (.tmp 19) rfl s19 rfl 64 (recL q.s q.r q.m q.K (.slice F3 q.n e3)).toArray (0,0) _ Rb4.out Tryz.underlying64 rfl (recInfo _ _ _ _ _) ?_)
        |(go_at_call 53;(refine HSr.out.mono ?_);rintro e y6 ⟨rfl,hb6⟩;have C6:=Lib.hid (C4.out.trans (hb6.mono C4.out.size));have kr6:=(HR.out.below C6.out).blk.cell (i:=1) rfl;clear hb6)
        |fail)
       go_wp2_with fail
       go_roundw
       case rel=>exact⟨z+1,by omega,by omega,by simp,C6⟩
       case measure=>simp[natOf1];omega
    ·have dz:decide (z<0)=false:=by simp;omega
     go_upto_region 21 with fail
     clear kr0 kr2 dd1 dz
     by_cases hx:inR np z
     ·obtain⟨x,hxk⟩: ∃x:Nat,z=(x:Int):=⟨z.toNat,by have:=hx.1;omega⟩
      subst hxk
      replace hx:x<np:=by have:=hx.2;omega
      have HJ:=Lib.hid (HRj.out (x:Int) wr hB.out)
      have HJ2:=Lib.hid fun(W:World) (hW:Below w5.heap.size w5 W)=>HRr.out (x:Int) W hW
      have HOkq:=Lib.hid (HOk.out (x:Int))
      unfold TellR at HJ HJ2
      clear HRj HRr HOk HK
      generalize pR H lE E out np (x:Int)=q at*
      generalize pC H lE E out np (x:Int)=cq at*
      go_upto_region 22 with(first
       |(go_at_call 50;(refine HJ.out.mono ?_);rintro e y1 ⟨F1,e1,rfl,hp1,hb1⟩;have HP1:=Lib.hid hp1;have C1:=Lib.hid (hB.out.trans (hb1.mono hB.out.size));clear hp1 hb1)
       |((with_reducible apply at_store (.tmp 17) (.tmp 110));refine wpList_store_row rfl 64 (.tmp 17) (.tmp 110) rfl y1.heap.size (recL q.s q.r q.m q.K (.slice F1 q.n e1)).toArray rfl rfl 64 zR (heap_alloc_new y1 _) (recInfo _ _ _ _ _) rfl (recL_all _ _ _ _ _ _ _) ?_)
       |fail)
      have Ra1:=Lib.hid (show Blk ((y1.alloc (.cells zR 64)).setRow y1.heap.size (recL q.s q.r q.m q.K (.slice F1 q.n e1)).toArray) y1.heap.size (recL q.s q.r q.m q.K (.slice F1 q.n e1)) 64 from setRow_heap _ _ _ _ _ (0,0) (heap_alloc_new y1 _))
      have Bb1:=Lib.hid (show Below y1.heap.size y1 ((y1.alloc (.cells zR 64)).setRow y1.heap.size (recL q.s q.r q.m q.K (.slice F1 q.n e1)).toArray)from below_setRow ((Below.refl _ _).alloc (Nat.le_refl _) _) (Nat.le_refl _) _)
      generalize (y1.alloc (.cells zR 64)).setRow y1.heap.size (recL q.s q.r q.m q.K (.slice F1 q.n e1)).toArray=y2 at*
      have C2:=Lib.hid (C1.out.trans (Bb1.out.mono C1.out.size))
      have HP2:=Lib.hid (HP1.out.below Bb1.out)
      have hlt1:=Ra1.out.lt
      generalize y1.heap.size=s17 at*
      clear HP1 Bb1 HJ C1
      go_upto_region 23 with(first
       |(go_at_call 51;(refine(HJ2.out y2 C2.out).mono ?_);rintro e y3 ⟨F3,e3,rfl,hp3,hb3⟩;have HP3:=Lib.hid hp3;have HP23:=Lib.hid (HP2.out.below hb3);have Ra3:=Lib.hid (Ra1.out.below hb3 hlt1);have C3:=Lib.hid (C2.out.trans (hb3.mono C2.out.size));have hlt3:=Nat.lt_of_lt_of_le hlt1 hb3.size;clear hp3 hb3)
       |((with_reducible apply at_store (.tmp 19) (.tmp 116));refine wpList_store_row rfl 64 (.tmp 19) (.tmp 116) rfl y3.heap.size (recL q.s q.r q.m q.K (.slice F3 q.n e3)).toArray rfl rfl 64 zR (heap_alloc_new y3 _) (recInfo _ _ _ _ _) rfl (recL_all _ _ _ _ _ _ _) ?_)
       |fail)
      have Rb4:=Lib.hid (show Blk ((y3.alloc (.cells zR 64)).setRow y3.heap.size (recL q.s q.r q.m q.K (.slice F3 q.n e3)).toArray) y3.heap.size (recL q.s q.r q.m q.K (.slice F3 q.n e3)) 64 from setRow_heap _ _ _ _ _ (0,0) (heap_alloc_new y3 _))
      have Bb4:=Lib.hid (show Below y3.heap.size y3 ((y3.alloc (.cells zR 64)).setRow y3.heap.size (recL q.s q.r q.m q.K (.slice F3 q.n e3)).toArray)from below_setRow ((Below.refl _ _).alloc (Nat.le_refl _) _) (Nat.le_refl _) _)
      generalize (y3.alloc (.cells zR 64)).setRow y3.heap.size (recL q.s q.r q.m q.K (.slice F3 q.n e3)).toArray=y4 at*
      have Ra4:=Lib.hid (Ra3.out.below Bb4.out hlt3)
      have C4:=Lib.hid (C3.out.trans (Bb4.out.mono C3.out.size))
      have HPa:=Lib.hid (HP23.out.below Bb4.out)
      have HPb:=Lib.hid (HP3.out.below Bb4.out)
      generalize y3.heap.size=s19 at*
      clear HP2 HP3 HP23 Bb4 HJ2 Ra1 Ra3 C2 C3 hlt1 hlt3
      have HSr:=Lib.hid (samerec_yes q.s q.r q.m q.K HOkq.out.K F1 F3 q.n e1 e3 q.pl y4 HPa.out HPb.out HOkq.out.len HOkq.out.n)
      have HFr4:=HR.out.below C4.out
      have kr1:=HFr4.blk.cell (i:=1) rfl
      have HA4:=Lib.hid (at_in (HF.out.below C4.out) x hx)
      obtain⟨bP,oP,rfl,hbP,hcP,_⟩:=HFr4.ints x hx
      dsimp only at hcP
      generalize out.getD x 0=y at*
      go_upto_region 24 with(first
       |(go_at_call 52;(refine HA4.out.mono ?_);rintro e y5 ⟨rfl,rfl⟩)
       |fail)
      clear HA4 HFr4
      have hcq:(cq !=cq)=false:=by simp
      have f1:decide ((0:Int)≤(x:Int))=true:=by simp
      have f2:decide ((x:Int)<(np:Int))=true:=by simp;omega
      have f3:(y !=y)=false:=by simp
      have f4:(x:Int)<(np:Int):=by omega
      go_upto_region 26 with(first
       |((with_reducible apply at_slot 128);refine wpList_load_row_want rfl 64 (.tmp 17) rfl s17 rfl 64 (recL q.s q.r q.m q.K (.slice F1 q.n e1)).toArray (0,0) _ Ra4.out Tryz.underlying64 rfl (recInfo _ _ _ _ _) ?_)
       |((with_reducible apply at_slot 129);refine wpList_load_row_want rfl 64 (.tmp 19) rfl s19 rfl 64 (recL q.s q.r q.m q.K (.slice F3 q.n e3)).toArray (0,0) _ Rb4.out Tryz.underlying64 rfl (recInfo _ _ _ _ _) ?_)
       |(go_at_call 53;(refine HSr.out.mono ?_);rintro e y6 ⟨rfl,hb6⟩;have C6:=Lib.hid (C4.out.trans (hb6.mono C4.out.size));have kr6:=(HR.out.below C6.out).blk.cell (i:=1) rfl;have hcP6:=(hb6.cell (p:=⟨bP,oP+x,none⟩) hbP).trans hcP;clear hb6)
       |fail)
      go_wp2_with fail
      go_roundw
      case rel=>exact⟨(x:Int)+1,by omega,by omega,by simp,C6⟩
      case measure=>simp[natOf1];omega
     ·have hnp:(np:Int)≤z:=by omega
      have f1:decide ((0:Int)≤z)=true:=by simp;omega
      have f2:decide (z<(np:Int))=false:=by simp;omega
      have HJ:=Lib.hid (HRj.out z wr hB.out)
      have HJ2:=Lib.hid fun(W:World) (hW:Below w5.heap.size w5 W)=>HRr.out z W hW
      have HOkq:=Lib.hid (HOk.out z)
      unfold TellR at HJ HJ2
      clear HRj HRr HOk HK
      generalize pR H lE E out np z=q at*
      generalize pC H lE E out np z=cq at*
      go_upto_region 22 with(first
       |(go_at_call 50;(refine HJ.out.mono ?_);rintro e y1 ⟨F1,e1,rfl,hp1,hb1⟩;have HP1:=Lib.hid hp1;have C1:=Lib.hid (hB.out.trans (hb1.mono hB.out.size));clear hp1 hb1)
       |((with_reducible apply at_store (.tmp 17) (.tmp 110));refine wpList_store_row rfl 64 (.tmp 17) (.tmp 110) rfl y1.heap.size (recL q.s q.r q.m q.K (.slice F1 q.n e1)).toArray rfl rfl 64 zR (heap_alloc_new y1 _) (recInfo _ _ _ _ _) rfl (recL_all _ _ _ _ _ _ _) ?_)
       |fail)
      have Ra1:=Lib.hid (show Blk ((y1.alloc (.cells zR 64)).setRow y1.heap.size (recL q.s q.r q.m q.K (.slice F1 q.n e1)).toArray) y1.heap.size (recL q.s q.r q.m q.K (.slice F1 q.n e1)) 64 from setRow_heap _ _ _ _ _ (0,0) (heap_alloc_new y1 _))
      have Bb1:=Lib.hid (show Below y1.heap.size y1 ((y1.alloc (.cells zR 64)).setRow y1.heap.size (recL q.s q.r q.m q.K (.slice F1 q.n e1)).toArray)from below_setRow ((Below.refl _ _).alloc (Nat.le_refl _) _) (Nat.le_refl _) _)
      generalize (y1.alloc (.cells zR 64)).setRow y1.heap.size (recL q.s q.r q.m q.K (.slice F1 q.n e1)).toArray=y2 at*
      have C2:=Lib.hid (C1.out.trans (Bb1.out.mono C1.out.size))
      have HP2:=Lib.hid (HP1.out.below Bb1.out)
      have hlt1:=Ra1.out.lt
      generalize y1.heap.size=s17 at*
      clear HP1 Bb1 HJ C1
      go_upto_region 23 with(first
       |(go_at_call 51;(refine(HJ2.out y2 C2.out).mono ?_);rintro e y3 ⟨F3,e3,rfl,hp3,hb3⟩;have HP3:=Lib.hid hp3;have HP23:=Lib.hid (HP2.out.below hb3);have Ra3:=Lib.hid (Ra1.out.below hb3 hlt1);have C3:=Lib.hid (C2.out.trans (hb3.mono C2.out.size));have hlt3:=Nat.lt_of_lt_of_le hlt1 hb3.size;clear hp3 hb3)
       |((with_reducible apply at_store (.tmp 19) (.tmp 116));refine wpList_store_row rfl 64 (.tmp 19) (.tmp 116) rfl y3.heap.size (recL q.s q.r q.m q.K (.slice F3 q.n e3)).toArray rfl rfl 64 zR (heap_alloc_new y3 _) (recInfo _ _ _ _ _) rfl (recL_all _ _ _ _ _ _ _) ?_)
       |fail)
      have Rb4:=Lib.hid (show Blk ((y3.alloc (.cells zR 64)).setRow y3.heap.size (recL q.s q.r q.m q.K (.slice F3 q.n e3)).toArray) y3.heap.size (recL q.s q.r q.m q.K (.slice F3 q.n e3)) 64 from setRow_heap _ _ _ _ _ (0,0) (heap_alloc_new y3 _))
      have Bb4:=Lib.hid (show Below y3.heap.size y3 ((y3.alloc (.cells zR 64)).setRow y3.heap.size (recL q.s q.r q.m q.K (.slice F3 q.n e3)).toArray)from below_setRow ((Below.refl _ _).alloc (Nat.le_refl _) _) (Nat.le_refl _) _)
      generalize (y3.alloc (.cells zR 64)).setRow y3.heap.size (recL q.s q.r q.m q.K (.slice F3 q.n e3)).toArray=y4 at*
      have Ra4:=Lib.hid (Ra3.out.below Bb4.out hlt3)
      have C4:=Lib.hid (C3.out.trans (Bb4.out.mono C3.out.size))
      have HPa:=Lib.hid (HP23.out.below Bb4.out)
      have HPb:=Lib.hid (HP3.out.below Bb4.out)
      generalize y3.heap.size=s19 at*
      clear HP2 HP3 HP23 Bb4 HJ2 Ra1 Ra3 C2 C3 hlt1 hlt3
      have HSr:=Lib.hid (samerec_yes q.s q.r q.m q.K HOkq.out.K F1 F3 q.n e1 e3 q.pl y4 HPa.out HPb.out HOkq.out.len HOkq.out.n)
      have HFr4:=HR.out.below C4.out
      have kr1:=HFr4.blk.cell (i:=1) rfl
      have HA4:=Lib.hid (at_out (HF.out.below C4.out) z (by omega))
      go_upto_region 24 with(first
       |(go_at_call 52;(refine HA4.out.mono ?_);rintro e y5 ⟨rfl,rfl⟩)
       |fail)
      clear HA4 HFr4
      have hcq:(cq !=cq)=false:=by simp
      go_upto_region 26 with(first
       |((with_reducible apply at_slot 128);refine wpList_load_row_want rfl 64 (.tmp 17) rfl s17 rfl 64 (recL q.s q.r q.m q.K (.slice F1 q.n e1)).toArray (0,0) _ Ra4.out Tryz.underlying64 rfl (recInfo _ _ _ _ _) ?_)
       |((with_reducible apply at_slot 129);refine wpList_load_row_want rfl 64 (.tmp 19) rfl s19 rfl 64 (recL q.s q.r q.m q.K (.slice F3 q.n e3)).toArray (0,0) _ Rb4.out Tryz.underlying64 rfl (recInfo _ _ _ _ _) ?_)
       |(go_at_call 53;(refine HSr.out.mono ?_);rintro e y6 ⟨rfl,hb6⟩;have C6:=Lib.hid (C4.out.trans (hb6.mono C4.out.size));have kr6:=(HR.out.below C6.out).blk.cell (i:=1) rfl;clear hb6)
       |fail)
      go_wp2_with fail
      go_roundw
      case rel=>exact⟨z+1,by omega,by omega,by simp,C6⟩
      case measure=>simp[natOf1];omega
   ·have dd1:decide (z≤(np:Int))=false:=by simp;omega
    go_wp2_with fail
    go_ret
    exact⟨rfl,B5.out.trans (hB.out.mono B5.out.size)⟩
 ·have HOp:=Lib.hid fun(W:World) (hW:Bytes W A l)=>jopen_bad l A n c W hW hL (by omega) hcap.1 hz
  have HQ:=Lib.hid fun(W:World) (hW:Bytes W A l)=>ropen15_bad l A n c W hW hL (by omega) hcap.1 hz
  have d2:(hcode l n !=0)=true:=by simpa using hz
  have d3:(hcode l n !=hcode l n)=false:=by simp
  generalize hcode l n=cd at*
  clear hb
  go_wp2_with(first
   |(go_at_call 42;((refine(HOp.out _ HB.out).mono ?_);rintro e w4 ⟨rfl,hb4⟩;have B4:=Lib.hid (B3.out.trans (hb4.mono B3.out.size));have HB4:=Lib.hid (HB.out.below hb4 (Nat.le_refl _));clear hb4))
   |(go_at_call 43;((refine(HQ.out _ HB4.out).mono ?_);rintro e w5 ⟨rfl,hb5⟩;have B5:=Lib.hid (B4.out.trans (hb5.mono B4.out.size));clear hb5))
   |fail)
  go_ret
  exact⟨rfl,B5.out⟩
theorem walk (a:Option Addr)(len cap:Nat)(z:List Int)(P:Option Addr)(k kc:Nat)(zp:List Int)(y:Int)(nq:Int)(w:World)(h:IsRow .i64 w a len cap z)(hp:IsRow .i64 w P k kc zp)(hy:(Lit.int .u8 y).wf=true)(hn:(Lit.int .i64 nq).wf=true):
 Calls Tryz.prog 7 #[.slice a len cap,.slice P k kc,.int .u8 y,.int .i64 nq] w fun e w'=>e= .returned (.bool true)∧Below w.heap.size w w':=by
 obtain⟨hI,h2,h3⟩:=ints_in h
 obtain⟨hP,h4,h5⟩:=ints_in hp
 have hy0:0≤y∧y<256:=by
  simp[Lit.wf,IntKind.min,IntKind.max,IntKind.signed,IntKind.bits]at hy
  omega
 by_cases h1:len≤120∧k≤8
 ·exact walk_main a len cap _ P k kc _ y nq w hI h1.1 hP h1.2 hy0
 ·by_cases h6:len≤120
  ·have d1:decide ((120:Int)<(len:Int))=false:=by simp;omega
   have d2:decide ((8:Int)<(k:Int))=true:=by simp;omega
   clear h hp hI hP
   go_enter Tryz.func7,Tryz.ntmps7
   go_wp2_with(go_at_call 41;((with_reducible refine(first_jfile _).mono ?_);rintro e w1 ⟨rfl,hb1⟩;have B1:=Lib.hid hb1;clear hb1))
   go_ret
   exact⟨rfl,B1.out⟩
  ·have d1:decide ((120:Int)<(len:Int))=true:=by simp;omega
   clear h hp hI hP
   go_enter Tryz.func7,Tryz.ntmps7
   go_wp2_with(go_at_call 41;((with_reducible refine(first_jfile _).mono ?_);rintro e w1 ⟨rfl,hb1⟩;have B1:=Lib.hid hb1;clear hb1))
   go_ret
   exact⟨rfl,B1.out⟩
end JfileSaysW
end Go.Proofs.YtjecmgkmcfkcjaaGreat
