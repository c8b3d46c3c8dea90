/-
  Texts beneath the proof.
-/
import Derived.Test.YtjecmgkmcfkcjaaGreatQa1
import Derived.Test.YtjecmgkmcfkcjaaGreatQa37
import Derived.Test.YtjecmgkmcfkcjaaGreatQa38
import Derived.Test.YtjecmgkmcfkcjaaGreatQa2
set_option linter.unusedVariables false
set_option linter.unusedSimpArgs false
set_option maxRecDepth 100000
set_option maxHeartbeats 8000000
open Go.ChangeShapes Go.WideShapes Go.ChangeAt Go.RowKit
namespace Go.Proofs.YtjecmgkmcfkcjaaGreat
namespace Wg
open Bytes8 Blk8 Own8 OwnE Rows2 Ob Ga Gb Ok7 Np Sg Pr8 Rc Rj Va Vb Vf Vh Wa
open Yc Yp Ye
open Rd (dcode)
open Rf (fcode)
open Ff (same_any)
open Rn (In2.older)
def seek (E:Nat)(oC:Nat→Int)(oX:Nat→Nat)(oH:Nat→Int)(oP:Nat→List Int)(hv:Int)(pl:List Int):Nat→Nat→Nat→Int×Int
 |0,_,_=>(0,16)
 |f+1,a,last=>if nothB E a=true then(0,16)else if a≤last then(0,12)else if oC a≠0 then(0,oC a)else if oH a=hv∧oP a=pl then((a:Int),0)else seek E oC oX oH oP hv pl f (oX a) a
def natO:Value→Nat
 | .int _ z=>z.toNat
 |_=>0
theorem fN_nn {h:HD}{l:List Int}{E a i:Nat}(hA:AllB l):fN h l E a i=((fN h l E a i).toNat:Int)∧(fN h l E a i).toNat≤18446744073709551615:=by
 have h2:0≤fN h l E a i∧fN h l E a i≤18446744073709551615:=by
  unfold fN
  split
  ·unfold bnum
   split
   ·exact u8_bd (fun x hx=>hA x (List.mem_of_mem_drop (List.mem_of_mem_take hx))) _
   ·omega
  ·omega
 omega
theorem dN_nn2 {h:HD}{l:List Int}{E a i:Nat}(hA:AllB l):dN h l E a i=((dN h l E a i).toNat:Int)∧(dN h l E a i).toNat≤18446744073709551615:=by
 have h2:0≤dN h l E a i∧dN h l E a i≤18446744073709551615:=by
  unfold dN
  split
  ·unfold bnum
   split
   ·exact u8_bd (fun x hx=>hA x (List.mem_of_mem_drop (List.mem_of_mem_take hx))) _
   ·omega
  ·omega
 omega
theorem taA_nn {l:List Int}{a:Nat}(hA:AllB l)(i:Nat):0≤taA (bodyL l a) i∧taA (bodyL l a) i≤18446744073709551615:=u8_bd (fun x hx=>hA x (List.mem_of_mem_drop (List.mem_of_mem_take hx))) _
attribute [local irreducible] HD.cells wpList Code.wp
def find4 (h:HD)(l:List Int)(n:Nat)(pl:List Int):Int×Int:=if tCode h l 4≠0 then(0,tCode h l 4)else seek n (dcode h l n) (fun a=>(dN h l n a 1).toNat) (fun a=>dN h l n a 0) (dP h l n) (ofS (keyB h.ic) (idL h.I) pl) pl (n+1) (taA (bodyL l (tOff h 4)) ((ofS (keyB h.ic) (idL h.I) pl).toNat%tNum h l 4)).toNat 0
theorem rfind4_any {gv:Nat}{h:HD}{d:Int}{A:Option Addr}{n c:Nat}{l:List Int}(A0:Option Addr)(pl:List Int)(m0 c0:Nat)(w:World)(v:ViewR w gv h d A n c l)(hb0:Bytes w A0 pl)(hL0:pl.length=m0)(hm0:m0≤800000)(hc0:m0≤c0)(hcm0:c0≤maxLen)(htn:tCode h l 4=0→0<tNum h l 4∧tNum h l 4≤1000000)(hhv:0≤ofS (keyB h.ic) (idL h.I) pl∧ofS (keyB h.ic) (idL h.I) pl≤18446744073709551615):
 Calls Tryz.prog 80 #[.pointer (some ⟨gv,0,none⟩),.int .i64 4,.slice A0 m0 c0] w fun e w'=>e= .returned (.tuple #[.int .u64 (find4 h l n pl).1,.int .i64 (find4 h l n pl).2])∧Below w.heap.size w w':=by
 have hn:=v.big
 have HTb:=jH (rtabTell 4 w v (by decide))
 unfold TellT at HTb
 have HNo:=jH fun(x:Int) (W:World) (hW:Below w.heap.size w W)=>rnoth_any x W (v.below hW)
 have HHa:=jH fun(W:World) (hW:Below w.heap.size w W)=>rvhash_any A0 pl m0 c0 W (v.below hW) (hb0.below hW (jR _)) hL0 hm0 hc0 hcm0
 have HOb:=jH fun(a:Nat) (W:World) (hW:Below w.heap.size w W)=>rdataTell a W (v.below hW)
 unfold TellD at HOb
 have HPl:=jH fun(W:World) (hW:Below w.heap.size w W)=>hb0.below hW (jR _)
 have HAB:=jH v.by_.1
 have HL0:=jH hL0
 have HTA:=jH (taA_nn (l:=l) (a:=tOff h 4) HAB.out)
 clear v hb0
 obtain⟨R,hRR⟩: ∃R,R=find4 h l n pl:=⟨_,rfl⟩
 rw[←hRR]
 unfold find4 at hRR
 generalize tCode h l 4=tc at*
 generalize tNum h l 4=tn at*
 generalize taA (bodyL l (tOff h 4))=fa at*
 generalize taB (bodyL l (tOff h 4))=fb at*
 by_cases htc:tc≠0
 ·rw[if_pos htc]at hRR
  have HRf:=jH hRR
  have d1:decide (tc=0)=false:=by simpa using htc
  have d2:(tc==0)=false:=by simpa using htc
  have d3:(tc !=0)=true:=by simpa using htc
  clear hRR htn hhv hL0
  go_enter Tryz.func80,Tryz.ntmps80
  go_wp2_with(first
   |(go_at_call 75;(refine HTb.out.mono ?_);rintro e w1 ⟨hb1,A2,c2,rfl,_⟩;have B1:=jH hb1;clear hb1)
   |fail)
  go_ret2
  rw[HRf.out]
  exact⟨rfl,B1.out⟩
 rw[if_neg htc]at hRR
 have htc0:tc=0:=by simpa using htc
 subst htc0
 clear htc
 obtain⟨htn1,htn2⟩:=htn rfl
 clear htn
 generalize ofS (keyB h.ic) (idL h.I) pl=hv at*
 obtain⟨hn0,hhv0⟩: ∃q:Nat,hv=(q:Int):=⟨hv.toNat,by omega⟩
 subst hhv0
 rw[Int.toNat_natCast]at hRR
 have hix:hn0%tn<tn:=Nat.mod_lt _ htn1
 have HX:=jH (HTA.out (hn0%tn))
 obtain⟨a0,ha0,ha1⟩: ∃q:Nat,fa (hn0%tn)=(q:Int)∧q≤18446744073709551615:=⟨(fa (hn0%tn)).toNat,by have:=HX.out;omega,by have:=HX.out;omega⟩
 rw[ha0,Int.toNat_natCast]at hRR
 have HR1:=jH hRR.symm
 have hwt:IntKind.u64.wrap (tn:Int)=(tn:Int):=by rw[IntKind.wrap_u64];omega
 have hmod:((hn0:Int)%(tn:Int))=((hn0%tn:Nat):Int):=by omega
 have htm:((hn0:Int).tmod (tn:Int))=((hn0%tn:Nat):Int):=by rw[Int.tmod_eq_emod_of_nonneg (by omega)];omega
 have htz:((tn:Int)==0)=false:=by simp;omega
 have htz2:decide ((tn:Int)=0)=false:=by simp;omega
 clear hRR HX
 generalize hn0%tn=ix at*
 go_enter Tryz.func80,Tryz.ntmps80
 go_upto_region 5 with(first
  |(go_at_call 75;(refine HTb.out.mono ?_);rintro e w1 ⟨hb1,A2,c2,rfl,hi1⟩;have B1:=jH hb1;have I1:=jH hi1;clear hb1 hi1)
  |(go_at_call 140;(refine(HHa.out _ B1.out).mono ?_);rintro e w2 ⟨rfl,hb2⟩;have B2:=jH (B1.out.trans (hb2.mono B1.out.size));have Bx:=jH hb2;clear hb2)
  |fail)
 obtain⟨b1,o1,rfl,_,p1,p1',_⟩:=(In2.older I1.out Bx.out) ix hix
 rw[ha0]at p1
 have hix2:(ix:Int)<(tn:Int):=by omega
 have hmd:(hn0:Int)%(tn:Int)=(ix:Int):=hmod
 have UB:=jH B2.out
 clear ha0 hmod
 go_wp2
 go_loopw [11,12] (fun x y wr=> ∃(a la f:Nat),x= .int .u64 (a:Int)∧y= .int .u64 (la:Int)∧Hid (seek n (dcode h l n) (fun a=>(dN h l n a 1).toNat) (fun a=>dN h l n a 0) (dP h l n) (hn0:Int) pl f a la=R)∧Hid (la≤n∧n+1≤f+la∧a≤18446744073709551615)∧Hid (Below w.heap.size w wr)) (fun _ y _=>n+1-natO y)
 case atStart=>exact⟨a0,0,n+1,rfl,rfl,HR1,jH ⟨by omega,by omega,by omega⟩,B2⟩
 case round=>
  obtain⟨a,la,f,rfl,rfl,hR,hF,hB⟩:=hrel
  obtain⟨f,rfl⟩: ∃q,f=q+1:=⟨f-1,by have:=hF.out;omega⟩
  have hR2:=hR.out
  unfold seek at hR2
  by_cases hno:nothB n (a:Int)=true
  ·rw[if_pos hno]at hR2
   have HRf:=jH hR2
   have hno':=hno
   clear hR2
   go_wp2_with(first
    |(go_at_call 76;(refine(HNo.out _ _ hB.out).mono ?_);rintro e w3 ⟨rfl,rfl⟩;(try rw[hno']))
    |fail)
   go_ret2
   rw[←HRf.out]
   exact⟨rfl,hB.out⟩
  rw[if_neg hno]at hR2
  have hno':nothB n (a:Int)=false:=by simpa using hno
  have han:0<a∧a<n:=by simp[nothB]at hno';omega
  by_cases hla:a≤la
  ·rw[if_pos hla]at hR2
   have HRf:=jH hR2
   have e2:decide ((a:Int)≤(la:Int))=true:=by simp;omega
   have e3:decide (a≤la)=true:=by simp;omega
   clear hR2 hno han
   go_wp2_with(first
    |(go_at_call 76;(refine(HNo.out _ _ hB.out).mono ?_);rintro e w3 ⟨rfl,rfl⟩;(try rw[hno']))
    |fail)
   go_ret2
   rw[←HRf.out]
   exact⟨rfl,hB.out⟩
  rw[if_neg hla]at hR2
  have e2:decide ((a:Int)≤(la:Int))=false:=by simp;omega
  have e3:decide (a≤la)=false:=by simp;omega
  have HO2:=jH fun(W:World) (hW:Below w.heap.size w W)=>HOb.out a W hW
  have hnx:=jH (dN_nn2 (h:=h) (E:=n) (a:=a) (i:=1) HAB.out)
  obtain⟨nx,hnx1,hnx2⟩: ∃q:Nat,dN h l n a 1=(q:Int)∧q≤18446744073709551615:=⟨_,hnx.out⟩
  have HAN:=jH han
  have HLA:=jH hla
  clear hnx han hla hno
  simp only[hnx1,Int.toNat_natCast]at HO2 hR2
  clear hnx1
  generalize hcd0:dcode h l n a=cd at HO2 hR2
  generalize dP h l n a=pa at HO2 hR2
  generalize dN h l n a 0=x0 at HO2 hR2
  generalize dN h l n a 2=x2 at HO2
  generalize dN h l n a 3=x3 at HO2
  generalize dN h l n a 4=x4 at HO2
  generalize dN h l n a 5=x5 at HO2
  clear hcd0
  by_cases hcd:cd≠0
  ·rw[if_pos hcd]at hR2
   have HRf:=jH hR2
   have f1:decide (cd=0)=false:=by simpa using hcd
   have f2:(cd==0)=false:=by simpa using hcd
   have f3:(cd !=0)=true:=by simpa using hcd
   clear hR2
   go_upto_region 12 with(first
    |(go_at_call 76;(refine(HNo.out _ _ hB.out).mono ?_);rintro e w3 ⟨rfl,rfl⟩;(try rw[hno']))
    |(go_at_call 77;(refine(HO2.out _ hB.out).mono ?_);rintro e w4 ⟨hb4,A4,m4,c4,rfl,hy4,hl4,hc4⟩;have B4:=jH (hB.out.trans (hb4.mono hB.out.size));have Y4:=jH hy4;have L4:=jH hl4;clear hb4 hy4 hl4 hc4)
    |fail)
   have BL:=Blk.new w4 [.int .u64 x0,.int .u64 (nx:Int),.int .u64 x2,.int .u64 x3,.int .u64 x4,.int .u64 x5,.slice A4 m4 c4] 149
   have k0:=BL.cell (i:=0) rfl
   have k1:=BL.cell (i:=1) rfl
   have k3:=BL.cell (i:=6) rfl
   have B5:=jH (B4.out.alloc B4.out.size (.cells ([.int .u64 x0,.int .u64 (nx:Int),.int .u64 x2,.int .u64 x3,.int .u64 x4,.int .u64 x5,.slice A4 m4 c4]:List Value).toArray 149))
   clear BL
   generalize (w4.alloc (.cells ([.int .u64 x0,.int .u64 (nx:Int),.int .u64 x2,.int .u64 x3,.int .u64 x4,.int .u64 x5,.slice A4 m4 c4]:List Value).toArray 149))=w5 at*
   go_quiet (fail)
   go_wp2
   go_ret2
   rw[←HRf.out]
   exact⟨rfl,below_drewN B5.out _⟩
  have hcd0:cd=0:=by simpa using hcd
  subst hcd0
  rw[if_neg hcd]at hR2
  clear hcd
  by_cases hx0:x0=(hn0:Int)
  ·subst hx0
   by_cases hpp0:pa=pl
   ·rw[if_pos ⟨rfl,hpp0⟩]at hR2
    have HRf:=jH hR2
    have hpp:decide (pa=pl)=true:=by simpa using hpp0
    clear hR2 hpp0
    go_upto_region 12 with(first
     |(go_at_call 76;(refine(HNo.out _ _ hB.out).mono ?_);rintro e w3 ⟨rfl,rfl⟩;(try rw[hno']))
     |(go_at_call 77;(refine(HO2.out _ hB.out).mono ?_);rintro e w4 ⟨hb4,A4,m4,c4,rfl,hy4,hl4,hc4⟩;have B4:=jH (hB.out.trans (hb4.mono hB.out.size));have Y4:=jH hy4;have L4:=jH hl4;clear hb4 hy4 hl4 hc4)
     |fail)
    have BL:=Blk.new w4 [.int .u64 (hn0:Int),.int .u64 (nx:Int),.int .u64 x2,.int .u64 x3,.int .u64 x4,.int .u64 x5,.slice A4 m4 c4] 149
    have k0:=BL.cell (i:=0) rfl
    have k1:=BL.cell (i:=1) rfl
    have k3:=BL.cell (i:=6) rfl
    have B5:=jH (B4.out.alloc B4.out.size (.cells ([.int .u64 (hn0:Int),.int .u64 (nx:Int),.int .u64 x2,.int .u64 x3,.int .u64 x4,.int .u64 x5,.slice A4 m4 c4]:List Value).toArray 149))
    have Y5:=jH (Y4.out.below ((Below.refl _ _).alloc (jR _) (.cells ([.int .u64 (hn0:Int),.int .u64 (nx:Int),.int .u64 x2,.int .u64 x3,.int .u64 x4,.int .u64 x5,.slice A4 m4 c4]:List Value).toArray 149)) (jR _))
    clear BL
    generalize (w4.alloc (.cells ([.int .u64 (hn0:Int),.int .u64 (nx:Int),.int .u64 x2,.int .u64 x3,.int .u64 x4,.int .u64 x5,.slice A4 m4 c4]:List Value).toArray 149))=w5 at*
    go_quiet (fail)
    go_wp2_with(first
     |(go_at_call 141;(refine(same_any _ _ pa pl _ _ _ _ _ (Y5.out.drewN nq) (HPl.out _ (below_drewN B5.out nq)) L4.out HL0.out).mono ?_);rintro e w6 ⟨rfl,rfl⟩;(try rw[hpp]))
     |fail)
    go_ret2
    rw[←HRf.out]
    exact⟨rfl,below_drewN B5.out _⟩
   ·rw[if_neg (fun q=>hpp0 q.2)]at hR2
    have HRn:=jH hR2
    have hpp:decide (pa=pl)=false:=by simpa using hpp0
    clear hR2 hpp0
    go_upto_region 12 with(first
     |(go_at_call 76;(refine(HNo.out _ _ hB.out).mono ?_);rintro e w3 ⟨rfl,rfl⟩;(try rw[hno']))
     |(go_at_call 77;(refine(HO2.out _ hB.out).mono ?_);rintro e w4 ⟨hb4,A4,m4,c4,rfl,hy4,hl4,hc4⟩;have B4:=jH (hB.out.trans (hb4.mono hB.out.size));have Y4:=jH hy4;have L4:=jH hl4;clear hb4 hy4 hl4 hc4)
     |fail)
    have BL:=Blk.new w4 [.int .u64 (hn0:Int),.int .u64 (nx:Int),.int .u64 x2,.int .u64 x3,.int .u64 x4,.int .u64 x5,.slice A4 m4 c4] 149
    have k0:=BL.cell (i:=0) rfl
    have k1:=BL.cell (i:=1) rfl
    have k3:=BL.cell (i:=6) rfl
    have B5:=jH (B4.out.alloc B4.out.size (.cells ([.int .u64 (hn0:Int),.int .u64 (nx:Int),.int .u64 x2,.int .u64 x3,.int .u64 x4,.int .u64 x5,.slice A4 m4 c4]:List Value).toArray 149))
    have Y5:=jH (Y4.out.below ((Below.refl _ _).alloc (jR _) (.cells ([.int .u64 (hn0:Int),.int .u64 (nx:Int),.int .u64 x2,.int .u64 x3,.int .u64 x4,.int .u64 x5,.slice A4 m4 c4]:List Value).toArray 149)) (jR _))
    clear BL
    generalize (w4.alloc (.cells ([.int .u64 (hn0:Int),.int .u64 (nx:Int),.int .u64 x2,.int .u64 x3,.int .u64 x4,.int .u64 x5,.slice A4 m4 c4]:List Value).toArray 149))=w5 at*
    go_quiet (fail)
    go_wp2_with(first
     |(go_at_call 141;(refine(same_any _ _ pa pl _ _ _ _ _ (Y5.out.drewN nq) (HPl.out _ (below_drewN B5.out nq)) L4.out HL0.out).mono ?_);rintro e w6 ⟨rfl,rfl⟩;(try rw[hpp]))
     |fail)
    go_roundw
    case rel=>exact⟨nx,a,f,rfl,rfl,jH HRn.out,jH ⟨by have:=HAN.out;omega,by have:=hF.out;have:=HLA.out;omega,hnx2⟩,jH (below_drewN B5.out _)⟩
    case measure=>have:=HAN.out;have:=HLA.out;simp[natO];omega
  ·rw[if_neg (fun q=>hx0 q.1)]at hR2
   have HRn:=jH hR2
   have g1:decide (x0=(hn0:Int))=false:=by simpa using hx0
   have g2:(x0==(hn0:Int))=false:=by simpa using hx0
   clear hR2 hx0
   go_upto_region 12 with(first
    |(go_at_call 76;(refine(HNo.out _ _ hB.out).mono ?_);rintro e w3 ⟨rfl,rfl⟩;(try rw[hno']))
    |(go_at_call 77;(refine(HO2.out _ hB.out).mono ?_);rintro e w4 ⟨hb4,A4,m4,c4,rfl,hy4,hl4,hc4⟩;have B4:=jH (hB.out.trans (hb4.mono hB.out.size));have Y4:=jH hy4;have L4:=jH hl4;clear hb4 hy4 hl4 hc4)
    |fail)
   have BL:=Blk.new w4 [.int .u64 x0,.int .u64 (nx:Int),.int .u64 x2,.int .u64 x3,.int .u64 x4,.int .u64 x5,.slice A4 m4 c4] 149
   have k0:=BL.cell (i:=0) rfl
   have k1:=BL.cell (i:=1) rfl
   have k3:=BL.cell (i:=6) rfl
   have B5:=jH (B4.out.alloc B4.out.size (.cells ([.int .u64 x0,.int .u64 (nx:Int),.int .u64 x2,.int .u64 x3,.int .u64 x4,.int .u64 x5,.slice A4 m4 c4]:List Value).toArray 149))
   have Y5:=jH (Y4.out.below ((Below.refl _ _).alloc (jR _) (.cells ([.int .u64 x0,.int .u64 (nx:Int),.int .u64 x2,.int .u64 x3,.int .u64 x4,.int .u64 x5,.slice A4 m4 c4]:List Value).toArray 149)) (jR _))
   clear BL
   generalize (w4.alloc (.cells ([.int .u64 x0,.int .u64 (nx:Int),.int .u64 x2,.int .u64 x3,.int .u64 x4,.int .u64 x5,.slice A4 m4 c4]:List Value).toArray 149))=w5 at*
   go_quiet (fail)
   go_wp2
   go_roundw
   case rel=>exact⟨nx,a,f,rfl,rfl,jH HRn.out,jH ⟨by have:=HAN.out;omega,by have:=hF.out;have:=HLA.out;omega,hnx2⟩,jH (below_drewN B5.out _)⟩
   case measure=>have:=HAN.out;have:=HLA.out;simp[natO];omega
def find5 (h:HD)(l:List Int)(n:Nat)(pl:List Int):Int×Int:=if tCode h l 5≠0 then(0,tCode h l 5)else seek n (fcode h l n) (fun a=>(fN h l n a 1).toNat) (fun a=>fN h l n a 0) (fP h l n) (ofS (keyB h.ic) (idL h.I) pl) pl (n+1) (taA (bodyL l (tOff h 5)) ((ofS (keyB h.ic) (idL h.I) pl).toNat%tNum h l 5)).toNat 0
theorem rfind5_any {gv:Nat}{h:HD}{d:Int}{A:Option Addr}{n c:Nat}{l:List Int}(A0:Option Addr)(pl:List Int)(m0 c0:Nat)(w:World)(v:ViewR w gv h d A n c l)(hb0:Bytes w A0 pl)(hL0:pl.length=m0)(hm0:m0≤800000)(hc0:m0≤c0)(hcm0:c0≤maxLen)(htn:tCode h l 5=0→0<tNum h l 5∧tNum h l 5≤1000000)(hhv:0≤ofS (keyB h.ic) (idL h.I) pl∧ofS (keyB h.ic) (idL h.I) pl≤18446744073709551615):
 Calls Tryz.prog 80 #[.pointer (some ⟨gv,0,none⟩),.int .i64 5,.slice A0 m0 c0] w fun e w'=>e= .returned (.tuple #[.int .u64 (find5 h l n pl).1,.int .i64 (find5 h l n pl).2])∧Below w.heap.size w w':=by
 have hn:=v.big
 have HTb:=jH (rtabTell 5 w v (by decide))
 unfold TellT at HTb
 have HNo:=jH fun(x:Int) (W:World) (hW:Below w.heap.size w W)=>rnoth_any x W (v.below hW)
 have HHa:=jH fun(W:World) (hW:Below w.heap.size w W)=>rvhash_any A0 pl m0 c0 W (v.below hW) (hb0.below hW (jR _)) hL0 hm0 hc0 hcm0
 have HOb:=jH fun(a:Nat) (W:World) (hW:Below w.heap.size w W)=>rfieldTell a W (v.below hW)
 unfold TellF at HOb
 have HPl:=jH fun(W:World) (hW:Below w.heap.size w W)=>hb0.below hW (jR _)
 have HAB:=jH v.by_.1
 have HL0:=jH hL0
 have HTA:=jH (taA_nn (l:=l) (a:=tOff h 5) HAB.out)
 clear v hb0
 obtain⟨R,hRR⟩: ∃R,R=find5 h l n pl:=⟨_,rfl⟩
 rw[←hRR]
 unfold find5 at hRR
 generalize tCode h l 5=tc at*
 generalize tNum h l 5=tn at*
 generalize taA (bodyL l (tOff h 5))=fa at*
 generalize taB (bodyL l (tOff h 5))=fb at*
 by_cases htc:tc≠0
 ·rw[if_pos htc]at hRR
  have HRf:=jH hRR
  have d1:decide (tc=0)=false:=by simpa using htc
  have d2:(tc==0)=false:=by simpa using htc
  have d3:(tc !=0)=true:=by simpa using htc
  clear hRR htn hhv hL0
  go_enter Tryz.func80,Tryz.ntmps80
  go_wp2_with(first
   |(go_at_call 75;(refine HTb.out.mono ?_);rintro e w1 ⟨hb1,A2,c2,rfl,_⟩;have B1:=jH hb1;clear hb1)
   |fail)
  go_ret2
  rw[HRf.out]
  exact⟨rfl,B1.out⟩
 rw[if_neg htc]at hRR
 have htc0:tc=0:=by simpa using htc
 subst htc0
 clear htc
 obtain⟨htn1,htn2⟩:=htn rfl
 clear htn
 generalize ofS (keyB h.ic) (idL h.I) pl=hv at*
 obtain⟨hn0,hhv0⟩: ∃q:Nat,hv=(q:Int):=⟨hv.toNat,by omega⟩
 subst hhv0
 rw[Int.toNat_natCast]at hRR
 have hix:hn0%tn<tn:=Nat.mod_lt _ htn1
 have HX:=jH (HTA.out (hn0%tn))
 obtain⟨a0,ha0,ha1⟩: ∃q:Nat,fa (hn0%tn)=(q:Int)∧q≤18446744073709551615:=⟨(fa (hn0%tn)).toNat,by have:=HX.out;omega,by have:=HX.out;omega⟩
 rw[ha0,Int.toNat_natCast]at hRR
 have HR1:=jH hRR.symm
 have hwt:IntKind.u64.wrap (tn:Int)=(tn:Int):=by rw[IntKind.wrap_u64];omega
 have hmod:((hn0:Int)%(tn:Int))=((hn0%tn:Nat):Int):=by omega
 have htm:((hn0:Int).tmod (tn:Int))=((hn0%tn:Nat):Int):=by rw[Int.tmod_eq_emod_of_nonneg (by omega)];omega
 have htz:((tn:Int)==0)=false:=by simp;omega
 have htz2:decide ((tn:Int)=0)=false:=by simp;omega
 clear hRR HX
 generalize hn0%tn=ix at*
 go_enter Tryz.func80,Tryz.ntmps80
 go_upto_region 5 with(first
  |(go_at_call 75;(refine HTb.out.mono ?_);rintro e w1 ⟨hb1,A2,c2,rfl,hi1⟩;have B1:=jH hb1;have I1:=jH hi1;clear hb1 hi1)
  |(go_at_call 140;(refine(HHa.out _ B1.out).mono ?_);rintro e w2 ⟨rfl,hb2⟩;have B2:=jH (B1.out.trans (hb2.mono B1.out.size));have Bx:=jH hb2;clear hb2)
  |fail)
 obtain⟨b1,o1,rfl,_,p1,p1',_⟩:=(In2.older I1.out Bx.out) ix hix
 rw[ha0]at p1
 have hix2:(ix:Int)<(tn:Int):=by omega
 have hmd:(hn0:Int)%(tn:Int)=(ix:Int):=hmod
 have UB:=jH B2.out
 clear ha0 hmod
 go_wp2
 go_loopw [11,12] (fun x y wr=> ∃(a la f:Nat),x= .int .u64 (a:Int)∧y= .int .u64 (la:Int)∧Hid (seek n (fcode h l n) (fun a=>(fN h l n a 1).toNat) (fun a=>fN h l n a 0) (fP h l n) (hn0:Int) pl f a la=R)∧Hid (la≤n∧n+1≤f+la∧a≤18446744073709551615)∧Hid (Below w.heap.size w wr)) (fun _ y _=>n+1-natO y)
 case atStart=>exact⟨a0,0,n+1,rfl,rfl,HR1,jH ⟨by omega,by omega,by omega⟩,B2⟩
 case round=>
  obtain⟨a,la,f,rfl,rfl,hR,hF,hB⟩:=hrel
  obtain⟨f,rfl⟩: ∃q,f=q+1:=⟨f-1,by have:=hF.out;omega⟩
  have hR2:=hR.out
  unfold seek at hR2
  by_cases hno:nothB n (a:Int)=true
  ·rw[if_pos hno]at hR2
   have HRf:=jH hR2
   have hno':=hno
   clear hR2
   go_wp2_with(first
    |(go_at_call 76;(refine(HNo.out _ _ hB.out).mono ?_);rintro e w3 ⟨rfl,rfl⟩;(try rw[hno']))
    |fail)
   go_ret2
   rw[←HRf.out]
   exact⟨rfl,hB.out⟩
  rw[if_neg hno]at hR2
  have hno':nothB n (a:Int)=false:=by simpa using hno
  have han:0<a∧a<n:=by simp[nothB]at hno';omega
  by_cases hla:a≤la
  ·rw[if_pos hla]at hR2
   have HRf:=jH hR2
   have e2:decide ((a:Int)≤(la:Int))=true:=by simp;omega
   have e3:decide (a≤la)=true:=by simp;omega
   clear hR2 hno han
   go_wp2_with(first
    |(go_at_call 76;(refine(HNo.out _ _ hB.out).mono ?_);rintro e w3 ⟨rfl,rfl⟩;(try rw[hno']))
    |fail)
   go_ret2
   rw[←HRf.out]
   exact⟨rfl,hB.out⟩
  rw[if_neg hla]at hR2
  have e2:decide ((a:Int)≤(la:Int))=false:=by simp;omega
  have e3:decide (a≤la)=false:=by simp;omega
  have HO2:=jH fun(W:World) (hW:Below w.heap.size w W)=>HOb.out a W hW
  have hnx:=jH (fN_nn (h:=h) (E:=n) (a:=a) (i:=1) HAB.out)
  obtain⟨nx,hnx1,hnx2⟩: ∃q:Nat,fN h l n a 1=(q:Int)∧q≤18446744073709551615:=⟨_,hnx.out⟩
  have HAN:=jH han
  have HLA:=jH hla
  clear hnx han hla hno
  simp only[hnx1,Int.toNat_natCast]at HO2 hR2
  clear hnx1
  generalize hcd0:fcode h l n a=cd at HO2 hR2
  generalize fP h l n a=pa at HO2 hR2
  generalize fN h l n a 0=x0 at HO2 hR2
  generalize fN h l n a 2=x2 at HO2
  clear hcd0
  by_cases hcd:cd≠0
  ·rw[if_pos hcd]at hR2
   have HRf:=jH hR2
   have f1:decide (cd=0)=false:=by simpa using hcd
   have f2:(cd==0)=false:=by simpa using hcd
   have f3:(cd !=0)=true:=by simpa using hcd
   clear hR2
   go_upto_region 14 with(first
    |(go_at_call 76;(refine(HNo.out _ _ hB.out).mono ?_);rintro e w3 ⟨rfl,rfl⟩;(try rw[hno']))
    |(go_at_call 78;(refine(HO2.out _ hB.out).mono ?_);rintro e w4 ⟨hb4,A4,m4,c4,rfl,hy4,hl4,hc4⟩;have B4:=jH (hB.out.trans (hb4.mono hB.out.size));have Y4:=jH hy4;have L4:=jH hl4;clear hb4 hy4 hl4 hc4)
    |fail)
   have BL:=Blk.new w4 [.int .u64 x0,.int .u64 (nx:Int),.int .u64 x2,.slice A4 m4 c4] 152
   have k0:=BL.cell (i:=0) rfl
   have k1:=BL.cell (i:=1) rfl
   have k3:=BL.cell (i:=3) rfl
   have B5:=jH (B4.out.alloc B4.out.size (.cells ([.int .u64 x0,.int .u64 (nx:Int),.int .u64 x2,.slice A4 m4 c4]:List Value).toArray 152))
   clear BL
   generalize (w4.alloc (.cells ([.int .u64 x0,.int .u64 (nx:Int),.int .u64 x2,.slice A4 m4 c4]:List Value).toArray 152))=w5 at*
   go_quiet (fail)
   go_wp2
   go_ret2
   rw[←HRf.out]
   exact⟨rfl,below_drewN B5.out _⟩
  have hcd0:cd=0:=by simpa using hcd
  subst hcd0
  rw[if_neg hcd]at hR2
  clear hcd
  by_cases hx0:x0=(hn0:Int)
  ·subst hx0
   by_cases hpp0:pa=pl
   ·rw[if_pos ⟨rfl,hpp0⟩]at hR2
    have HRf:=jH hR2
    have hpp:decide (pa=pl)=true:=by simpa using hpp0
    clear hR2 hpp0
    go_upto_region 14 with(first
     |(go_at_call 76;(refine(HNo.out _ _ hB.out).mono ?_);rintro e w3 ⟨rfl,rfl⟩;(try rw[hno']))
     |(go_at_call 78;(refine(HO2.out _ hB.out).mono ?_);rintro e w4 ⟨hb4,A4,m4,c4,rfl,hy4,hl4,hc4⟩;have B4:=jH (hB.out.trans (hb4.mono hB.out.size));have Y4:=jH hy4;have L4:=jH hl4;clear hb4 hy4 hl4 hc4)
     |fail)
    have BL:=Blk.new w4 [.int .u64 (hn0:Int),.int .u64 (nx:Int),.int .u64 x2,.slice A4 m4 c4] 152
    have k0:=BL.cell (i:=0) rfl
    have k1:=BL.cell (i:=1) rfl
    have k3:=BL.cell (i:=3) rfl
    have B5:=jH (B4.out.alloc B4.out.size (.cells ([.int .u64 (hn0:Int),.int .u64 (nx:Int),.int .u64 x2,.slice A4 m4 c4]:List Value).toArray 152))
    have Y5:=jH (Y4.out.below ((Below.refl _ _).alloc (jR _) (.cells ([.int .u64 (hn0:Int),.int .u64 (nx:Int),.int .u64 x2,.slice A4 m4 c4]:List Value).toArray 152)) (jR _))
    clear BL
    generalize (w4.alloc (.cells ([.int .u64 (hn0:Int),.int .u64 (nx:Int),.int .u64 x2,.slice A4 m4 c4]:List Value).toArray 152))=w5 at*
    go_quiet (fail)
    go_wp2_with(first
     |(go_at_call 141;(refine(same_any _ _ pa pl _ _ _ _ _ (Y5.out.drewN nq) (HPl.out _ (below_drewN B5.out nq)) L4.out HL0.out).mono ?_);rintro e w6 ⟨rfl,rfl⟩;(try rw[hpp]))
     |fail)
    go_ret2
    rw[←HRf.out]
    exact⟨rfl,below_drewN B5.out _⟩
   ·rw[if_neg (fun q=>hpp0 q.2)]at hR2
    have HRn:=jH hR2
    have hpp:decide (pa=pl)=false:=by simpa using hpp0
    clear hR2 hpp0
    go_upto_region 14 with(first
     |(go_at_call 76;(refine(HNo.out _ _ hB.out).mono ?_);rintro e w3 ⟨rfl,rfl⟩;(try rw[hno']))
     |(go_at_call 78;(refine(HO2.out _ hB.out).mono ?_);rintro e w4 ⟨hb4,A4,m4,c4,rfl,hy4,hl4,hc4⟩;have B4:=jH (hB.out.trans (hb4.mono hB.out.size));have Y4:=jH hy4;have L4:=jH hl4;clear hb4 hy4 hl4 hc4)
     |fail)
    have BL:=Blk.new w4 [.int .u64 (hn0:Int),.int .u64 (nx:Int),.int .u64 x2,.slice A4 m4 c4] 152
    have k0:=BL.cell (i:=0) rfl
    have k1:=BL.cell (i:=1) rfl
    have k3:=BL.cell (i:=3) rfl
    have B5:=jH (B4.out.alloc B4.out.size (.cells ([.int .u64 (hn0:Int),.int .u64 (nx:Int),.int .u64 x2,.slice A4 m4 c4]:List Value).toArray 152))
    have Y5:=jH (Y4.out.below ((Below.refl _ _).alloc (jR _) (.cells ([.int .u64 (hn0:Int),.int .u64 (nx:Int),.int .u64 x2,.slice A4 m4 c4]:List Value).toArray 152)) (jR _))
    clear BL
    generalize (w4.alloc (.cells ([.int .u64 (hn0:Int),.int .u64 (nx:Int),.int .u64 x2,.slice A4 m4 c4]:List Value).toArray 152))=w5 at*
    go_quiet (fail)
    go_wp2_with(first
     |(go_at_call 141;(refine(same_any _ _ pa pl _ _ _ _ _ (Y5.out.drewN nq) (HPl.out _ (below_drewN B5.out nq)) L4.out HL0.out).mono ?_);rintro e w6 ⟨rfl,rfl⟩;(try rw[hpp]))
     |fail)
    go_roundw
    case rel=>exact⟨nx,a,f,rfl,rfl,jH HRn.out,jH ⟨by have:=HAN.out;omega,by have:=hF.out;have:=HLA.out;omega,hnx2⟩,jH (below_drewN B5.out _)⟩
    case measure=>have:=HAN.out;have:=HLA.out;simp[natO];omega
  ·rw[if_neg (fun q=>hx0 q.1)]at hR2
   have HRn:=jH hR2
   have g1:decide (x0=(hn0:Int))=false:=by simpa using hx0
   have g2:(x0==(hn0:Int))=false:=by simpa using hx0
   clear hR2 hx0
   go_upto_region 14 with(first
    |(go_at_call 76;(refine(HNo.out _ _ hB.out).mono ?_);rintro e w3 ⟨rfl,rfl⟩;(try rw[hno']))
    |(go_at_call 78;(refine(HO2.out _ hB.out).mono ?_);rintro e w4 ⟨hb4,A4,m4,c4,rfl,hy4,hl4,hc4⟩;have B4:=jH (hB.out.trans (hb4.mono hB.out.size));have Y4:=jH hy4;have L4:=jH hl4;clear hb4 hy4 hl4 hc4)
    |fail)
   have BL:=Blk.new w4 [.int .u64 x0,.int .u64 (nx:Int),.int .u64 x2,.slice A4 m4 c4] 152
   have k0:=BL.cell (i:=0) rfl
   have k1:=BL.cell (i:=1) rfl
   have k3:=BL.cell (i:=3) rfl
   have B5:=jH (B4.out.alloc B4.out.size (.cells ([.int .u64 x0,.int .u64 (nx:Int),.int .u64 x2,.slice A4 m4 c4]:List Value).toArray 152))
   have Y5:=jH (Y4.out.below ((Below.refl _ _).alloc (jR _) (.cells ([.int .u64 x0,.int .u64 (nx:Int),.int .u64 x2,.slice A4 m4 c4]:List Value).toArray 152)) (jR _))
   clear BL
   generalize (w4.alloc (.cells ([.int .u64 x0,.int .u64 (nx:Int),.int .u64 x2,.slice A4 m4 c4]:List Value).toArray 152))=w5 at*
   go_quiet (fail)
   go_wp2
   go_roundw
   case rel=>exact⟨nx,a,f,rfl,rfl,jH HRn.out,jH ⟨by have:=HAN.out;omega,by have:=hF.out;have:=HLA.out;omega,hnx2⟩,jH (below_drewN B5.out _)⟩
   case measure=>have:=HAN.out;have:=HLA.out;simp[natO];omega
end Wg
namespace Wi
open Bytes8 Blk8 OwnE Ga Gb Ok7 Np Sg Rj Va Vf Wg
attribute [local irreducible] HD.cells wpList Code.wp
theorem rfinddata_any {gv:Nat}{h:HD}{d:Int}{A:Option Addr}{n c:Nat}{l:List Int}(A0:Option Addr)(pl:List Int)(m0 c0:Nat)(w:World)(v:ViewR w gv h d A n c l)(hb0:Bytes w A0 pl)(hL0:pl.length=m0)(hm0:m0≤800000)(hc0:m0≤c0)(hcm0:c0≤maxLen)(htn:tCode h l 4=0→0<tNum h l 4∧tNum h l 4≤1000000)(hhv:0≤ofS (keyB h.ic) (idL h.I) pl∧ofS (keyB h.ic) (idL h.I) pl≤18446744073709551615):
 Calls Tryz.prog 27 #[.pointer (some ⟨gv,0,none⟩),.slice A0 m0 c0] w fun e w'=>e= .returned (.tuple #[.int .u64 (find4 h l n pl).1,.int .i64 (find4 h l n pl).2])∧Below w.heap.size w w':=by
 have HF:=jH (rfind4_any A0 pl m0 c0 w v hb0 hL0 hm0 hc0 hcm0 htn hhv)
 clear v hb0
 generalize find4 h l n pl=R at*
 go_enter Tryz.func27,Tryz.ntmps27
 go_wp2_with(first
  |(go_at_call 80;(refine HF.out.mono ?_);rintro e w1 ⟨rfl,hb1⟩;have B1:=jH hb1;clear hb1)
  |fail)
 go_ret2
 exact⟨rfl,B1.out⟩
end Wi
namespace Wh
open Bytes8 Blk8 Own8 OwnE Rows2 Ob Ga Gb Ok7 Np Pr8 Rc Va Vf Vh Wa
open Yp Ye
open Wg (fN_nn dN_nn2 taA_nn natO)
open Rd (dcode)
open Rf (fcode)
open Ym (wordElt)
open Rn (In2.older)
def links (E:Nat)(oC:Nat→Int)(oX:Nat→Nat):Nat→Nat→Nat→List Int→List Int×Int
 |0,_,_,out=>(out,0)
 |f+1,a,last,out=>if nothB E a=true then(out,0)else if a≤last then([],12)else if oC a≠0 then([],oC a)else links E oC oX f (oX a) a (out++ [(a:Int)])
attribute [local irreducible] HD.cells wpList Code.wp
def bucket4 (h:HD)(l:List Int)(n:Nat)(z:Int):List Int×Int:=if tCode h l 4≠0 then([],tCode h l 4)else if z<0∨(tNum h l 4:Int)≤z then([],2)else links n (dcode h l n) (fun a=>(dN h l n a 1).toNat) (n+1) (taA (bodyL l (tOff h 4)) z.toNat).toNat 0 []
theorem rbucket4_any {gv:Nat}{h:HD}{d:Int}{A:Option Addr}{n c:Nat}{l:List Int}(z:Int)(w:World)(v:ViewR w gv h d A n c l)(htn:tNum h l 4≤1000000):
 Calls Tryz.prog 18 #[.pointer (some ⟨gv,0,none⟩),.int .i64 4,.int .i64 z] w (TellL (bucket4 h l n z) w):=by
 have hn:=v.big
 have HTb:=jH (rtabTell 4 w v (by decide))
 unfold TellT at HTb
 have HNo:=jH fun(x:Int) (W:World) (hW:Below w.heap.size w W)=>rnoth_any x W (v.below hW)
 have HOb:=jH fun(a:Nat) (W:World) (hW:Below w.heap.size w W)=>rdataTell a W (v.below hW)
 unfold TellD at HOb
 have HAB:=jH v.by_.1
 have HTA:=jH (taA_nn (l:=l) (a:=tOff h 4) HAB.out)
 clear v
 obtain⟨R,hRR⟩: ∃R,R=bucket4 h l n z:=⟨_,rfl⟩
 rw[←hRR]
 unfold bucket4 at hRR
 unfold TellL
 generalize tCode h l 4=tc at*
 generalize tNum h l 4=tn at*
 generalize taA (bodyL l (tOff h 4))=fa at*
 generalize taB (bodyL l (tOff h 4))=fb at*
 by_cases htc:tc≠0
 ·rw[if_pos htc]at hRR
  have HRf:=jH hRR
  have d1:decide (tc=0)=false:=by simpa using htc
  have d2:(tc==0)=false:=by simpa using htc
  have d3:(tc !=0)=true:=by simpa using htc
  clear hRR htn
  go_enter Tryz.func18,Tryz.ntmps18
  go_wp2_with(first
   |(go_at_call 75;(refine HTb.out.mono ?_);rintro e w1 ⟨hb1,A2,c2,rfl,_⟩;have B1:=jH hb1;clear hb1)
   |fail)
  refine bodyPost_ret (v:= .tuple #[.slice none 0 0,.int .i64 tc]) (by simp[results,Tryz.results18,go_sem,Result.andThen]) rfl ?_
  rw[HRf.out]
  exact⟨B1.out,none,0,0,rfl,OwnE.nil _ _ (B1.out).size,rfl⟩
 rw[if_neg htc]at hRR
 have htc0:tc=0:=by simpa using htc
 subst htc0
 clear htc
 by_cases hz:z<0∨(tn:Int)≤z
 ·rw[if_pos hz]at hRR
  have HRf:=jH hRR
  clear hRR
  by_cases hz0:z<0
  ·have d1:decide (z<0)=true:=by simpa using hz0
   clear hz
   go_enter Tryz.func18,Tryz.ntmps18
   go_wp2_with(first
    |(go_at_call 75;(refine HTb.out.mono ?_);rintro e w1 ⟨hb1,A2,c2,rfl,_⟩;have B1:=jH hb1;clear hb1)
    |fail)
   refine bodyPost_ret (v:= .tuple #[.slice none 0 0,.int .i64 2]) (by simp[results,Tryz.results18,go_sem,Result.andThen]) rfl ?_
   rw[HRf.out]
   exact⟨B1.out,none,0,0,rfl,OwnE.nil _ _ (B1.out).size,rfl⟩
  ·have d1:decide (z<0)=false:=by simp;omega
   have d2:decide (z≥(tn:Int))=true:=by simp;omega
   have d3:decide ((tn:Int)≤z)=true:=by simp;omega
   clear hz
   go_enter Tryz.func18,Tryz.ntmps18
   go_wp2_with(first
    |(go_at_call 75;(refine HTb.out.mono ?_);rintro e w1 ⟨hb1,A2,c2,rfl,_⟩;have B1:=jH hb1;clear hb1)
    |fail)
   refine bodyPost_ret (v:= .tuple #[.slice none 0 0,.int .i64 2]) (by simp[results,Tryz.results18,go_sem,Result.andThen]) rfl ?_
   rw[HRf.out]
   exact⟨B1.out,none,0,0,rfl,OwnE.nil _ _ (B1.out).size,rfl⟩
 rw[if_neg hz]at hRR
 obtain⟨ix,hix0⟩: ∃q:Nat,z=(q:Int):=⟨z.toNat,by omega⟩
 subst hix0
 have hix:ix<tn:=by omega
 rw[Int.toNat_natCast]at hRR
 have HX:=jH (HTA.out ix)
 obtain⟨a0,ha0,ha1⟩: ∃q:Nat,fa ix=(q:Int)∧q≤18446744073709551615:=⟨(fa ix).toNat,by have:=HX.out;omega,by have:=HX.out;omega⟩
 rw[ha0,Int.toNat_natCast]at hRR
 have HR1:=jH hRR.symm
 have d1:decide ((ix:Int)<0)=false:=by simp
 have d2:decide ((ix:Int)≥(tn:Int))=false:=by simp;omega
 have d3:decide (tn≤ix)=false:=by simp;omega
 have d4:decide ((tn:Int)≤(ix:Int))=false:=by simp;omega
 have hix2:(ix:Int)<(tn:Int):=by omega
 clear hRR HX hz
 go_enter Tryz.func18,Tryz.ntmps18
 go_upto_region 7 with(first
  |(go_at_call 75;(refine HTb.out.mono ?_);rintro e w1 ⟨hb1,A2,c2,rfl,hi1⟩;have B1:=jH hb1;have I1:=jH hi1;clear hb1 hi1)
  |fail)
 obtain⟨b1,o1,rfl,_,p1,p1',_⟩:=I1.out ix hix
 rw[ha0]at p1
 have O1:=jH (show OwnE 40 1 w1 w.heap.size none 0 0 (([]:List Int).map (Value.int .u64))from OwnE.nil w1 w.heap.size B1.out.size)
 clear ha0
 go_wp2
 go_loopw [10,11,12] (fun s x y wr=> ∃(out:List Int) (m a la f:Nat) (A1:Option Addr) (c1:Nat),s= .slice A1 m c1∧x= .int .u64 (a:Int)∧y= .int .u64 (la:Int)∧Hid (links n (dcode h l n) (fun a=>(dN h l n a 1).toNat) f a la out=R)∧Hid (OwnE 40 1 wr w.heap.size A1 m c1 (out.map (Value.int .u64)))∧Hid (out.length=m∧m≤la)∧Hid (la≤n∧n+1≤f+la∧a≤18446744073709551615)∧Hid (Below w.heap.size w wr)) (fun _ _ y _=>n+1-natO y)
 case atStart=>exact⟨[],0,a0,0,n+1,none,0,rfl,rfl,rfl,HR1,O1,jH ⟨rfl,jR _⟩,jH ⟨by omega,by omega,by omega⟩,B1⟩
 case round=>
  obtain⟨out,m,a,la,f,A1,c1,rfl,rfl,rfl,hR,hO,hL,hF,hB⟩:=hrel
  obtain⟨f,rfl⟩: ∃q,f=q+1:=⟨f-1,by have:=hF.out;omega⟩
  have hm:m≤800000:=by have:=hF.out;have:=hL.out;omega
  have hR2:=hR.out
  unfold links at hR2
  by_cases hno:nothB n (a:Int)=true
  ·rw[if_pos hno]at hR2
   have HRf:=jH hR2
   have hno':=hno
   clear hR2
   go_wp2_with(first
    |(go_at_call 76;(refine(HNo.out _ _ hB.out).mono ?_);rintro e w3 ⟨rfl,rfl⟩;(try rw[hno']))
    |fail)
   refine bodyPost_ret (v:= .tuple #[.slice A1 m c1,.int .i64 0]) (by simp[results,Tryz.results18,go_sem,Result.andThen]) rfl ?_
   rw[←HRf.out]
   exact⟨hB.out,A1,m,c1,rfl,hO.out,hL.out.1⟩
  rw[if_neg hno]at hR2
  have hno':nothB n (a:Int)=false:=by simpa using hno
  have han:0<a∧a<n:=by simp[nothB]at hno';omega
  by_cases hla:a≤la
  ·rw[if_pos hla]at hR2
   have HRf:=jH hR2
   have e2:decide ((a:Int)≤(la:Int))=true:=by simp;omega
   have e3:decide (a≤la)=true:=by simp;omega
   clear hR2 hno han
   go_wp2_with(first
    |(go_at_call 76;(refine(HNo.out _ _ hB.out).mono ?_);rintro e w3 ⟨rfl,rfl⟩;(try rw[hno']))
    |fail)
   refine bodyPost_ret (v:= .tuple #[.slice none 0 0,.int .i64 12]) (by simp[results,Tryz.results18,go_sem,Result.andThen]) rfl ?_
   rw[←HRf.out]
   exact⟨hB.out,none,0,0,rfl,OwnE.nil _ _ (hB.out).size,rfl⟩
  rw[if_neg hla]at hR2
  have e2:decide ((a:Int)≤(la:Int))=false:=by simp;omega
  have e3:decide (a≤la)=false:=by simp;omega
  have HO2:=jH fun(W:World) (hW:Below w.heap.size w W)=>HOb.out a W hW
  have hnx:=jH (dN_nn2 (h:=h) (E:=n) (a:=a) (i:=1) HAB.out)
  obtain⟨nx,hnx1,hnx2⟩: ∃q:Nat,dN h l n a 1=(q:Int)∧q≤18446744073709551615:=⟨_,hnx.out⟩
  have HAN:=jH han
  have HLA:=jH hla
  clear hnx han hla hno
  simp only[hnx1,Int.toNat_natCast]at HO2 hR2
  clear hnx1
  generalize hcd0:dcode h l n a=cd at HO2 hR2
  generalize dP h l n a=pa at HO2
  generalize dN h l n a 0=x0 at HO2
  generalize dN h l n a 2=x2 at HO2
  generalize dN h l n a 3=x3 at HO2
  generalize dN h l n a 4=x4 at HO2
  generalize dN h l n a 5=x5 at HO2
  clear hcd0
  by_cases hcd:cd≠0
  ·rw[if_pos hcd]at hR2
   have HRf:=jH hR2
   have f1:decide (cd=0)=false:=by simpa using hcd
   have f2:(cd==0)=false:=by simpa using hcd
   have f3:(cd !=0)=true:=by simpa using hcd
   clear hR2
   go_wp2_with(first
    |(go_at_call 76;(refine(HNo.out _ _ hB.out).mono ?_);rintro e w3 ⟨rfl,rfl⟩;(try rw[hno']))
    |(go_at_call 77;(refine(HO2.out _ hB.out).mono ?_);rintro e w4 ⟨hb4,A4,m4,c4,rfl,hy4,hl4,hc4⟩;have B4:=jH (hB.out.trans (hb4.mono hB.out.size));have O4:=jH (hO.out.kept hb4 (jR _));have B5:=jH (B4.out.alloc B4.out.size (.cells ([.int .u64 x0,.int .u64 (nx:Int),.int .u64 x2,.int .u64 x3,.int .u64 x4,.int .u64 x5,.slice A4 m4 c4]:List Value).toArray 149));have O5:=jH (O4.out.alloc (.cells ([.int .u64 x0,.int .u64 (nx:Int),.int .u64 x2,.int .u64 x3,.int .u64 x4,.int .u64 x5,.slice A4 m4 c4]:List Value).toArray 149));clear hb4 hy4 hl4 hc4)
    |fail)
   refine bodyPost_ret (v:= .tuple #[.slice none 0 0,.int .i64 cd]) (by simp[results,Tryz.results18,go_sem,Result.andThen]) rfl ?_
   rw[←HRf.out]
   exact⟨B5.out,none,0,0,rfl,OwnE.nil _ _ (B5.out).size,rfl⟩
  have hcd0:cd=0:=by simpa using hcd
  subst hcd0
  rw[if_neg hcd]at hR2
  have HRn:=jH hR2
  clear hcd hR2
  go_upto_region 19 with(first
   |(go_at_call 76;(refine(HNo.out _ _ hB.out).mono ?_);rintro e w3 ⟨rfl,rfl⟩;(try rw[hno']))
   |(go_at_call 77;(refine(HO2.out _ hB.out).mono ?_);rintro e w4 ⟨hb4,A4,m4,c4,rfl,hy4,hl4,hc4⟩;have B4:=jH (hB.out.trans (hb4.mono hB.out.size));have O4:=jH (hO.out.kept hb4 (jR _));have B5:=jH (B4.out.alloc B4.out.size (.cells ([.int .u64 x0,.int .u64 (nx:Int),.int .u64 x2,.int .u64 x3,.int .u64 x4,.int .u64 x5,.slice A4 m4 c4]:List Value).toArray 149));have O5:=jH (O4.out.alloc (.cells ([.int .u64 x0,.int .u64 (nx:Int),.int .u64 x2,.int .u64 x3,.int .u64 x4,.int .u64 x5,.slice A4 m4 c4]:List Value).toArray 149));clear hb4 hy4 hl4 hc4)
   |fail)
  generalize (w4.alloc (.cells ([.int .u64 x0,.int .u64 (nx:Int),.int .u64 x2,.int .u64 x3,.int .u64 x4,.int .u64 x5,.slice A4 m4 c4]:List Value).toArray 149))=w5 at*
  go_wp2_with(first
   |(at_builtin;refine wpList_append_elt wordElt rfl (.tmp 70) (.tmp 72) rfl w.heap.size A1 m c1 (out.map (Value.int .u64)) rfl (OwnE.alloc O5.out _) ⟨w5.heap.size,0,none⟩ 1 1 [.int .u64 (a:Int)] rfl rfl (Blk.news (Blk.new w5 [.int .u64 (a:Int)] 40)) (by intro u hu;simp at hu;subst hu;rfl) (by omega) (by omega) ?_;intro A6 c6 w6 ho6 hb6;have O6:=jH ho6;have B6:=jH ((B5.out.alloc B5.out.size (.cells #[.int .u64 (a:Int)] 40)).trans hb6);clear ho6 hb6)
   |fail)
  go_roundw
  case rel=>exact⟨out++ [(a:Int)],m+1,nx,a,f,A6,c6,rfl,rfl,rfl,jH HRn.out,jH (by rw[List.map_append,List.map_cons,List.map_nil];exact O6.out),jH ⟨by simp[hL.out.1],by have:=hL.out.2;have:=HLA.out;omega⟩,jH ⟨by have:=HAN.out;omega,by have:=hF.out;have:=HLA.out;omega,hnx2⟩,jH B6.out⟩
  case measure=>have:=HAN.out;have:=HLA.out;simp[natO];omega
def bucket5 (h:HD)(l:List Int)(n:Nat)(z:Int):List Int×Int:=if tCode h l 5≠0 then([],tCode h l 5)else if z<0∨(tNum h l 5:Int)≤z then([],2)else links n (fcode h l n) (fun a=>(fN h l n a 1).toNat) (n+1) (taA (bodyL l (tOff h 5)) z.toNat).toNat 0 []
theorem rbucket5_any {gv:Nat}{h:HD}{d:Int}{A:Option Addr}{n c:Nat}{l:List Int}(z:Int)(w:World)(v:ViewR w gv h d A n c l)(htn:tNum h l 5≤1000000):
 Calls Tryz.prog 18 #[.pointer (some ⟨gv,0,none⟩),.int .i64 5,.int .i64 z] w (TellL (bucket5 h l n z) w):=by
 have hn:=v.big
 have HTb:=jH (rtabTell 5 w v (by decide))
 unfold TellT at HTb
 have HNo:=jH fun(x:Int) (W:World) (hW:Below w.heap.size w W)=>rnoth_any x W (v.below hW)
 have HOb:=jH fun(a:Nat) (W:World) (hW:Below w.heap.size w W)=>rfieldTell a W (v.below hW)
 unfold TellF at HOb
 have HAB:=jH v.by_.1
 have HTA:=jH (taA_nn (l:=l) (a:=tOff h 5) HAB.out)
 clear v
 obtain⟨R,hRR⟩: ∃R,R=bucket5 h l n z:=⟨_,rfl⟩
 rw[←hRR]
 unfold bucket5 at hRR
 unfold TellL
 generalize tCode h l 5=tc at*
 generalize tNum h l 5=tn at*
 generalize taA (bodyL l (tOff h 5))=fa at*
 generalize taB (bodyL l (tOff h 5))=fb at*
 by_cases htc:tc≠0
 ·rw[if_pos htc]at hRR
  have HRf:=jH hRR
  have d1:decide (tc=0)=false:=by simpa using htc
  have d2:(tc==0)=false:=by simpa using htc
  have d3:(tc !=0)=true:=by simpa using htc
  clear hRR htn
  go_enter Tryz.func18,Tryz.ntmps18
  go_wp2_with(first
   |(go_at_call 75;(refine HTb.out.mono ?_);rintro e w1 ⟨hb1,A2,c2,rfl,_⟩;have B1:=jH hb1;clear hb1)
   |fail)
  refine bodyPost_ret (v:= .tuple #[.slice none 0 0,.int .i64 tc]) (by simp[results,Tryz.results18,go_sem,Result.andThen]) rfl ?_
  rw[HRf.out]
  exact⟨B1.out,none,0,0,rfl,OwnE.nil _ _ (B1.out).size,rfl⟩
 rw[if_neg htc]at hRR
 have htc0:tc=0:=by simpa using htc
 subst htc0
 clear htc
 by_cases hz:z<0∨(tn:Int)≤z
 ·rw[if_pos hz]at hRR
  have HRf:=jH hRR
  clear hRR
  by_cases hz0:z<0
  ·have d1:decide (z<0)=true:=by simpa using hz0
   clear hz
   go_enter Tryz.func18,Tryz.ntmps18
   go_wp2_with(first
    |(go_at_call 75;(refine HTb.out.mono ?_);rintro e w1 ⟨hb1,A2,c2,rfl,_⟩;have B1:=jH hb1;clear hb1)
    |fail)
   refine bodyPost_ret (v:= .tuple #[.slice none 0 0,.int .i64 2]) (by simp[results,Tryz.results18,go_sem,Result.andThen]) rfl ?_
   rw[HRf.out]
   exact⟨B1.out,none,0,0,rfl,OwnE.nil _ _ (B1.out).size,rfl⟩
  ·have d1:decide (z<0)=false:=by simp;omega
   have d2:decide (z≥(tn:Int))=true:=by simp;omega
   have d3:decide ((tn:Int)≤z)=true:=by simp;omega
   clear hz
   go_enter Tryz.func18,Tryz.ntmps18
   go_wp2_with(first
    |(go_at_call 75;(refine HTb.out.mono ?_);rintro e w1 ⟨hb1,A2,c2,rfl,_⟩;have B1:=jH hb1;clear hb1)
    |fail)
   refine bodyPost_ret (v:= .tuple #[.slice none 0 0,.int .i64 2]) (by simp[results,Tryz.results18,go_sem,Result.andThen]) rfl ?_
   rw[HRf.out]
   exact⟨B1.out,none,0,0,rfl,OwnE.nil _ _ (B1.out).size,rfl⟩
 rw[if_neg hz]at hRR
 obtain⟨ix,hix0⟩: ∃q:Nat,z=(q:Int):=⟨z.toNat,by omega⟩
 subst hix0
 have hix:ix<tn:=by omega
 rw[Int.toNat_natCast]at hRR
 have HX:=jH (HTA.out ix)
 obtain⟨a0,ha0,ha1⟩: ∃q:Nat,fa ix=(q:Int)∧q≤18446744073709551615:=⟨(fa ix).toNat,by have:=HX.out;omega,by have:=HX.out;omega⟩
 rw[ha0,Int.toNat_natCast]at hRR
 have HR1:=jH hRR.symm
 have d1:decide ((ix:Int)<0)=false:=by simp
 have d2:decide ((ix:Int)≥(tn:Int))=false:=by simp;omega
 have d3:decide (tn≤ix)=false:=by simp;omega
 have d4:decide ((tn:Int)≤(ix:Int))=false:=by simp;omega
 have hix2:(ix:Int)<(tn:Int):=by omega
 clear hRR HX hz
 go_enter Tryz.func18,Tryz.ntmps18
 go_upto_region 7 with(first
  |(go_at_call 75;(refine HTb.out.mono ?_);rintro e w1 ⟨hb1,A2,c2,rfl,hi1⟩;have B1:=jH hb1;have I1:=jH hi1;clear hb1 hi1)
  |fail)
 obtain⟨b1,o1,rfl,_,p1,p1',_⟩:=I1.out ix hix
 rw[ha0]at p1
 have O1:=jH (show OwnE 40 1 w1 w.heap.size none 0 0 (([]:List Int).map (Value.int .u64))from OwnE.nil w1 w.heap.size B1.out.size)
 clear ha0
 go_wp2
 go_loopw [10,11,12] (fun s x y wr=> ∃(out:List Int) (m a la f:Nat) (A1:Option Addr) (c1:Nat),s= .slice A1 m c1∧x= .int .u64 (a:Int)∧y= .int .u64 (la:Int)∧Hid (links n (fcode h l n) (fun a=>(fN h l n a 1).toNat) f a la out=R)∧Hid (OwnE 40 1 wr w.heap.size A1 m c1 (out.map (Value.int .u64)))∧Hid (out.length=m∧m≤la)∧Hid (la≤n∧n+1≤f+la∧a≤18446744073709551615)∧Hid (Below w.heap.size w wr)) (fun _ _ y _=>n+1-natO y)
 case atStart=>exact⟨[],0,a0,0,n+1,none,0,rfl,rfl,rfl,HR1,O1,jH ⟨rfl,jR _⟩,jH ⟨by omega,by omega,by omega⟩,B1⟩
 case round=>
  obtain⟨out,m,a,la,f,A1,c1,rfl,rfl,rfl,hR,hO,hL,hF,hB⟩:=hrel
  obtain⟨f,rfl⟩: ∃q,f=q+1:=⟨f-1,by have:=hF.out;omega⟩
  have hm:m≤800000:=by have:=hF.out;have:=hL.out;omega
  have hR2:=hR.out
  unfold links at hR2
  by_cases hno:nothB n (a:Int)=true
  ·rw[if_pos hno]at hR2
   have HRf:=jH hR2
   have hno':=hno
   clear hR2
   go_wp2_with(first
    |(go_at_call 76;(refine(HNo.out _ _ hB.out).mono ?_);rintro e w3 ⟨rfl,rfl⟩;(try rw[hno']))
    |fail)
   refine bodyPost_ret (v:= .tuple #[.slice A1 m c1,.int .i64 0]) (by simp[results,Tryz.results18,go_sem,Result.andThen]) rfl ?_
   rw[←HRf.out]
   exact⟨hB.out,A1,m,c1,rfl,hO.out,hL.out.1⟩
  rw[if_neg hno]at hR2
  have hno':nothB n (a:Int)=false:=by simpa using hno
  have han:0<a∧a<n:=by simp[nothB]at hno';omega
  by_cases hla:a≤la
  ·rw[if_pos hla]at hR2
   have HRf:=jH hR2
   have e2:decide ((a:Int)≤(la:Int))=true:=by simp;omega
   have e3:decide (a≤la)=true:=by simp;omega
   clear hR2 hno han
   go_wp2_with(first
    |(go_at_call 76;(refine(HNo.out _ _ hB.out).mono ?_);rintro e w3 ⟨rfl,rfl⟩;(try rw[hno']))
    |fail)
   refine bodyPost_ret (v:= .tuple #[.slice none 0 0,.int .i64 12]) (by simp[results,Tryz.results18,go_sem,Result.andThen]) rfl ?_
   rw[←HRf.out]
   exact⟨hB.out,none,0,0,rfl,OwnE.nil _ _ (hB.out).size,rfl⟩
  rw[if_neg hla]at hR2
  have e2:decide ((a:Int)≤(la:Int))=false:=by simp;omega
  have e3:decide (a≤la)=false:=by simp;omega
  have HO2:=jH fun(W:World) (hW:Below w.heap.size w W)=>HOb.out a W hW
  have hnx:=jH (fN_nn (h:=h) (E:=n) (a:=a) (i:=1) HAB.out)
  obtain⟨nx,hnx1,hnx2⟩: ∃q:Nat,fN h l n a 1=(q:Int)∧q≤18446744073709551615:=⟨_,hnx.out⟩
  have HAN:=jH han
  have HLA:=jH hla
  clear hnx han hla hno
  simp only[hnx1,Int.toNat_natCast]at HO2 hR2
  clear hnx1
  generalize hcd0:fcode h l n a=cd at HO2 hR2
  generalize fP h l n a=pa at HO2
  generalize fN h l n a 0=x0 at HO2
  generalize fN h l n a 2=x2 at HO2
  clear hcd0
  by_cases hcd:cd≠0
  ·rw[if_pos hcd]at hR2
   have HRf:=jH hR2
   have f1:decide (cd=0)=false:=by simpa using hcd
   have f2:(cd==0)=false:=by simpa using hcd
   have f3:(cd !=0)=true:=by simpa using hcd
   clear hR2
   go_wp2_with(first
    |(go_at_call 76;(refine(HNo.out _ _ hB.out).mono ?_);rintro e w3 ⟨rfl,rfl⟩;(try rw[hno']))
    |(go_at_call 78;(refine(HO2.out _ hB.out).mono ?_);rintro e w4 ⟨hb4,A4,m4,c4,rfl,hy4,hl4,hc4⟩;have B4:=jH (hB.out.trans (hb4.mono hB.out.size));have O4:=jH (hO.out.kept hb4 (jR _));have B5:=jH (B4.out.alloc B4.out.size (.cells ([.int .u64 x0,.int .u64 (nx:Int),.int .u64 x2,.slice A4 m4 c4]:List Value).toArray 152));have O5:=jH (O4.out.alloc (.cells ([.int .u64 x0,.int .u64 (nx:Int),.int .u64 x2,.slice A4 m4 c4]:List Value).toArray 152));clear hb4 hy4 hl4 hc4)
    |fail)
   refine bodyPost_ret (v:= .tuple #[.slice none 0 0,.int .i64 cd]) (by simp[results,Tryz.results18,go_sem,Result.andThen]) rfl ?_
   rw[←HRf.out]
   exact⟨B5.out,none,0,0,rfl,OwnE.nil _ _ (B5.out).size,rfl⟩
  have hcd0:cd=0:=by simpa using hcd
  subst hcd0
  rw[if_neg hcd]at hR2
  have HRn:=jH hR2
  clear hcd hR2
  go_upto_region 19 with(first
   |(go_at_call 76;(refine(HNo.out _ _ hB.out).mono ?_);rintro e w3 ⟨rfl,rfl⟩;(try rw[hno']))
   |(go_at_call 78;(refine(HO2.out _ hB.out).mono ?_);rintro e w4 ⟨hb4,A4,m4,c4,rfl,hy4,hl4,hc4⟩;have B4:=jH (hB.out.trans (hb4.mono hB.out.size));have O4:=jH (hO.out.kept hb4 (jR _));have B5:=jH (B4.out.alloc B4.out.size (.cells ([.int .u64 x0,.int .u64 (nx:Int),.int .u64 x2,.slice A4 m4 c4]:List Value).toArray 152));have O5:=jH (O4.out.alloc (.cells ([.int .u64 x0,.int .u64 (nx:Int),.int .u64 x2,.slice A4 m4 c4]:List Value).toArray 152));clear hb4 hy4 hl4 hc4)
   |fail)
  generalize (w4.alloc (.cells ([.int .u64 x0,.int .u64 (nx:Int),.int .u64 x2,.slice A4 m4 c4]:List Value).toArray 152))=w5 at*
  go_wp2_with(first
   |(at_builtin;refine wpList_append_elt wordElt rfl (.tmp 70) (.tmp 72) rfl w.heap.size A1 m c1 (out.map (Value.int .u64)) rfl (OwnE.alloc O5.out _) ⟨w5.heap.size,0,none⟩ 1 1 [.int .u64 (a:Int)] rfl rfl (Blk.news (Blk.new w5 [.int .u64 (a:Int)] 40)) (by intro u hu;simp at hu;subst hu;rfl) (by omega) (by omega) ?_;intro A6 c6 w6 ho6 hb6;have O6:=jH ho6;have B6:=jH ((B5.out.alloc B5.out.size (.cells #[.int .u64 (a:Int)] 40)).trans hb6);clear ho6 hb6)
   |fail)
  go_roundw
  case rel=>exact⟨out++ [(a:Int)],m+1,nx,a,f,A6,c6,rfl,rfl,rfl,jH HRn.out,jH (by rw[List.map_append,List.map_cons,List.map_nil];exact O6.out),jH ⟨by simp[hL.out.1],by have:=hL.out.2;have:=HLA.out;omega⟩,jH ⟨by have:=HAN.out;omega,by have:=hF.out;have:=HLA.out;omega,hnx2⟩,jH B6.out⟩
  case measure=>have:=HAN.out;have:=HLA.out;simp[natO];omega
end Wh
end Go.Proofs.YtjecmgkmcfkcjaaGreat
