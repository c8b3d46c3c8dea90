/-
  Texts beneath the proof.
-/
import Derived.Test.YtelmgldkgccecaaGreatQs1
import Derived.Test.YtelmgldkgccecaaGreatQs34
import Derived.Test.YtelmgldkgccecaaGreatQs27
import Derived.Test.YtelmgldkgccecaaGreatQs33
set_option linter.unusedVariables false
set_option linter.unusedSimpArgs false
set_option maxRecDepth 100000
set_option maxHeartbeats 16000000
open Go.ChangeShapes Go.WideShapes Go.ChangeAt Go.RowKit
namespace Go.Proofs.YtelmgldkgccecaaGreat
namespace ArenaSaysW
open Bytes8 Blk8 Own8 OwnM OwnE Rows2 Ob Ga Gb Gj Ma Na Ns Nt Nu Ra Rc Rp Va Vb Vd Ve Vf Vh Vg
open Yc
open Rn (In2.older)
open Rj (keyB vhash_any)
open Go1 (hcode)
open Sg (ofS)
theorem cut20 (A:Option Addr)(len cap:Nat)(h2:20≤cap)(w:World):
 (Instr.slice 25 (.slice A len cap) none (some (.int .i64 20)) none).run Tryz.prog w= .ok (.slice (cutA A cap 0) 20 cap) w:=by
 have ht:Tryz.prog.underlying 25=some (.slice (Tryz.prog.elem 25)):=by rw[elem8];exact Tryz.underlying25
 have h:=run_slice_h w 25 A len cap ht .i64 20 (by omega) (by omega)
 rw[elem8,sizeof8]at h
 refine Eq.trans h ?_
 unfold sliced cutA
 by_cases hc:cap=0
 ·simp[hc]
 ·simp[hc]
attribute [local irreducible] HD.cells wpList Code.wp
theorem walk_main (a:Option Addr)(len cap:Nat)(f:Nat→Int)(P:Option Addr)(k kc:Nat)(g:Nat→Int)(by_:Int)(pl:Nat)(kd:Int)(w:World)(hI:InInts .i64 w a len f)(hl:len≤80)(hP:InInts .i64 w P k g)(hk:k≤8)(hy:0≤by_∧by_<256):
 Calls Tryz.prog 3 #[.slice a len cap,.slice P k kc,.int .u8 by_,.int .u64 (pl:Int),.int .i64 kd] w fun e w'=>e= .returned (.bool true)∧Below w.heap.size w w':=by
 have d1:decide ((80:Int)<(len:Int))=false:=by simp;omega
 have d2:decide ((8:Int)<(k:Int))=false:=by simp;omega
 have HI:=jH hI
 have HP:=jH hP
 clear hI hP
 go_enter Tryz.func3,Tryz.ntmps3
 go_upto_region 6 with(go_at_call 11;((with_reducible refine(first_arena _).mono ?_);rintro e w1 ⟨rfl,hb1⟩;have B1:=jH hb1;clear hb1))
 clear d1 d2
 have HIm:=jH (image_made a len cap f 8 w1 (HI.out.below B1.out) (by omega) (by decide))
 unfold Imaged at HIm
 have HP1:=jH (HP.out.below B1.out)
 go_upto_region 7 with(first
  |(go_at_call 13;((refine HIm.out.mono ?_);rintro e w2 ⟨A0,c0,m,rfl,hg2,ho2,hb2⟩;have hlen:=hg2.img.lens;have HO2:=jH ho2;have B2:=jH (B1.out.trans (hb2.mono B1.out.size));have HSp:=jH (spoil_any A0 m.b.length c0 (imgB m) P k kc g by_ w2 ho2.bytes (imgB_len hg2.img) (by omega) (HP1.out.below hb2) (by omega) hy);clear hg2 ho2 hb2))
  |(go_at_call 12;((refine HSp.out.mono ?_);rintro e w3 ⟨A,c,l,rfl,hl3,ho3,hb3⟩;have HO:=jH ho3;have B3:=jH (B2.out.trans (hb3.mono B2.out.size));clear ho3 hb3))
  |fail)
 generalize m.b.length=n at*
 have hb:=HO.out.bytes
 have hcap:=own_cap HO.out
 have HB:=jH hb
 have hL:l.length=n:=hl3
 clear HIm HP HP1 HI HSp HO2 B1 B2 HO hl3
 by_cases hz:hcode l n=0
 ·have hok:=hdOf_ok hb.1 21
  obtain⟨E,hE,hEB,hEn⟩:=fine_end hz hok
  have HOp:=jH fun(W:World) (hW:Bytes W A l)=>open_fine l A n c W hW hL (by omega) hcap.1 hz E hE hEB hEn hok
  have HQ:=jH fun(W:World) (hW:Bytes W A l)=>ropen_fine l A n c W hW hL (by omega) hcap.1 hz E hE hEB hEn hok
  unfold Opened at HOp
  unfold OpenedR at HQ
  have hokH:=hok
  generalize hdOf l=H at*
  generalize Ob.u8 l 248=dp at*
  clear hb hz hE hEB hok
  go_upto_region 8 with(first
   |(go_at_call 14;((refine(HOp.out _ HB.out).mono ?_);rintro e w4 ⟨gv,Av,cv,rfl,_,hv,hcv,hb4⟩;have HV4:=jH hv;have B4:=jH (B3.out.trans (hb4.mono B3.out.size));have HB4:=jH (HB.out.below hb4 (jR _));clear hv hb4))
   |fail)
  go_upto_region 9 with(first
   |(go_at_call 15;((refine(HQ.out _ HB4.out).mono ?_);rintro e w5 ⟨gw,Aw,cw,rfl,_,hw,hb5⟩;have HW5:=jH hw;have HV5:=jH (HV4.out.below hb5);have B5:=jH (B4.out.trans (hb5.mono B4.out.size));have HB5:=jH (HB4.out.below hb5 (jR _));clear hw hb5))
   |fail)
  have HVs:=jH (show Views w5 gv gw H dp E (l.take E)from⟨⟨Av,cv,HV5.out,hcv⟩,⟨Aw,cw,HW5.out⟩⟩)
  have HEv:=jH fun(W:World) (hW:Below w5.heap.size w5 W)=>vend_any W (HV5.out.below hW)
  have HEw:=jH fun(W:World) (hW:Below w5.heap.size w5 W)=>rvend_any W (HW5.out.below hW)
  have HTv:=jH (tabTell kd w5 HV5.out hcv)
  have HTw:=jH fun(W:World) (hW:Below w5.heap.size w5 W) (hk:kd=4∨kd=5)=>rtabTell kd W (HW5.out.below hW) hk
  unfold TellT at HTv HTw
  have HC1:=jH (show ¬(kd=4∨kd=5)→tCode H (l.take E) kd=1∧tNum H (l.take E) kd=0 from fun h=>by
   have e:tCode H (l.take E) kd=1:=if_neg h
   exact⟨e,if_neg (by rw[e];decide)⟩)
  have hbd:tNum H (l.take E) kd≤1000000:=by
   unfold tNum
   split
   ·unfold Yh.taNum
    have h1:(Ob.bodyL (l.take E) (tOff H kd)).length≤(l.take E).length:=by unfold Ob.bodyL;rw[List.length_take,List.length_drop];omega
    have h2:(l.take E).length≤1000000:=by rw[List.length_take];omega
    split
    ·unfold Yp.taN;omega
    ·omega
   ·omega
  generalize tCode H (l.take E) kd=tc at*
  generalize tNum H (l.take E) kd=tn at*
  generalize Yp.taA (Ob.bodyL (l.take E) (tOff H kd))=fa at*
  generalize Yp.taB (Ob.bodyL (l.take E) (tOff H kd))=fb at*
  clear HOp HQ HB4 HV4 B3 B4 HB
  go_upto_region 14 with(first
   |(go_at_call 16;(refine HTv.out.mono ?_);rintro e w6 ⟨hb6,A6,c6,rfl,hi6⟩;have S6:=jH hb6;have I6:=jH hi6;clear hb6 hi6)
   |fail)
  have hwu:IntKind.u64.wrap ((E:Int)+24)=((E+24:Nat):Int):=by rw[IntKind.wrap_u64];omega
  have hcut:=fun W:World=>cut20 A n c (by have:=hcap.1;omega) W
  have hB20:=fun(W:World) (hW:Below w5.heap.size w5 W)=>show Bytes W (cutA A c 0) (l.take 20)from by
   have q:=Bytes.cut (HB5.out.below hW (jR _)) c 0 20 (by rw[hL];exact hcap.1)
   rw[List.drop_zero]at q
   exact q
  have hl20:(l.take 20).length=20:=by rw[List.length_take];omega
  have HHv:=jH fun(W:World) (hW:Below w5.heap.size w5 W)=>vhash_any (cutA A c 0) (l.take 20) 20 c W (HV5.out.below hW) (hB20 W hW) hl20 (by decide) (by have:=hcap.1;omega) hcap.2
  have HHw:=jH fun(W:World) (hW:Below w5.heap.size w5 W)=>rvhash_any (cutA A c 0) (l.take 20) 20 c W (HW5.out.below hW) (hB20 W hW) hl20 (by decide) (by have:=hcap.1;omega) hcap.2
  clear hB20 hl20
  generalize ofS (keyB H.ic) (idL H.I) (l.take 20)=hv at*
  have hvv:(hv !=hv)=false:=by simp
  by_cases hk:kd=4∨kd=5
  ·rcases hk with rfl|rfl
   ·go_upto_region 17 with(first
     |(go_at_call 17;(refine(HTw.out _ S6.out (.inl rfl)).mono ?_);rintro e w7 ⟨hb7,A7,c7,rfl,hi7⟩;have S7:=jH (S6.out.trans (hb7.mono S6.out.size));have I7:=jH hi7;have I67:=jH (In2.older I6.out hb7);clear hb7 hi7)
     |fail)
    have hne1:((tn:Int)!=(tn:Int))=false:=by simp
    have hne2:(tc !=tc)=false:=by simp
    have hne3:((E:Int)!=(E:Int))=false:=by simp
    go_upto_region 20 with(first
     |(go_at_call 18;(refine(HEv.out _ S7.out).mono ?_);rintro e y1 ⟨rfl,rfl⟩)
     |(go_at_call 19;(refine(HEw.out _ S7.out).mono ?_);rintro e y1 ⟨rfl,rfl⟩)
     |fail)
    clear hne1 hne2 hne3
    go_loopw [21] (fun i wr=> ∃j:Nat,j≤tn∧i= .int .i64 (j:Int)∧Hid (Below w5.heap.size w5 wr)∧Hid (Below w7.heap.size w7 wr)) (fun i _=>tn-Vg.natOf i)
    case atStart=>exact⟨0,Nat.zero_le _,rfl,S7,jH (Below.refl _ _)⟩
    case round=>
     obtain⟨j,hj,rfl,hbr,hb7⟩:=hrel
     by_cases hlt:j<tn
     ·obtain⟨b1,o1,rfl,_,p1,p1',_⟩:=(In2.older I7.out hb7.out.drew) j hlt
      obtain⟨b2,o2,rfl,_,q1,q1',_⟩:=(In2.older I67.out hb7.out.drew) j hlt
      have hj0:(0:Int)≤(j:Int):=by omega
      have hjn:(j:Int)<(tn:Int):=by omega
      generalize fa j=fx at*
      generalize fb j=gx at*
      go_wp2
      go_region
      all_goals
       go_wp2
       go_roundw
       case rel=>exact⟨j+1,by omega,by go_num,jH hbr.out.drew,jH hb7.out.drew⟩
       case measure=>simp[Vg.natOf];omega
     ·have hjt:j=tn:=by omega
      have dj:decide ((j:Int)<(tn:Int))=false:=by simp<;>omega
      have HSm:=jH (sameat_yes pl wr.drew (HVs.out.below hbr.out.drew))
      go_upto_region 24 with fail
      clear dj hjt
      refine wp_region_noPanic ?_
      refine wp_region_held_drew (S:=fun W:World=>True) (by kernel_rfl) (by exact trivial) (fun hHeld=>?_)
      refine tk (i:=0) (oi:=⟨some 128,_,_,_,_,_⟩) (v:=?_) rfl (Or.inl ⟨by rfl,?_⟩) ?_
      rotate_left
      ·intro W hSw;go_simp;try (with_reducible rfl)
      try simp only[Act.put,sA,sZ,sS]
      refine tk (i:=1) (oi:=⟨some 129,_,_,_,_,_⟩) (v:=?_) rfl (Or.inl ⟨by rfl,?_⟩) ?_
      rotate_left
      ·intro W hSw;go_simp;try (with_reducible rfl)
      try simp only[Act.put,sA,sZ,sS]
      refine tk (i:=2) (oi:=⟨some 130,_,_,_,_,_⟩) (v:=?_) rfl (Or.inl ⟨by rfl,?_⟩) ?_
      rotate_left
      ·intro W hSw;go_simp;try (with_reducible rfl)
      try simp only[Act.put,sA,sZ,sS]
      refine wpAnyH_ready (rs:=[3]) (by kernel_rfl) (by simp) ?_
      refine AllReadyH.cons (o:=⟨some 131,_,_,_,_,_⟩) rfl (fun K hK=>?_) AllReadyH.nil
      go_simp
      ((refine HSm.out.mono ?_);rintro e z1 ⟨rfl,hb⟩;have Z1:=jH (hbr.out.drew.trans (hb.mono hbr.out.size));clear hb)
      try go_wp2_with fail
      refine hK.out _ _ (by exact trivial) (fun hHeld=>?_)
      clear hK K
      try simp only[Act.put,sA,sZ,sS]
      refine tk (i:=4) (oi:=⟨some 132,_,_,_,_,_⟩) (v:=?_) rfl (Or.inl ⟨by rfl,?_⟩) ?_
      rotate_left
      ·intro W hSw;go_simp;try (with_reducible rfl)
      try simp only[Act.put,sA,sZ,sS]
      refine tk (i:=5) (oi:=⟨some 133,_,_,_,_,_⟩) (v:=?_) rfl (Or.inl ⟨by rfl,?_⟩) ?_
      rotate_left
      ·intro W hSw;go_simp;try (with_reducible rfl)
      try simp only[Act.put,sA,sZ,sS]
      refine tk (i:=6) (oi:=⟨some 134,_,_,_,_,_⟩) (v:=?_) rfl (Or.inl ⟨by rfl,?_⟩) ?_
      rotate_left
      ·intro W hSw;go_simp;try (with_reducible rfl)
      try simp only[Act.put,sA,sZ,sS]
      refine tk (i:=7) (oi:=⟨some 135,_,_,_,_,_⟩) (v:=?_) rfl (Or.inl ⟨by rfl,?_⟩) ?_
      rotate_left
      ·intro W hSw;go_simp;try (with_reducible rfl)
      try simp only[Act.put,sA,sZ,sS]
      refine tk (i:=8) (oi:=⟨some 136,_,_,_,_,_⟩) (v:=?_) rfl (Or.inl ⟨by rfl,?_⟩) ?_
      rotate_left
      ·intro W hSw;go_simp;try (with_reducible rfl)
      try simp only[Act.put,sA,sZ,sS]
      refine tk (i:=10) (oi:=⟨some 138,_,_,_,_,_⟩) (v:=?_) rfl (Or.inl ⟨by rfl,?_⟩) ?_
      rotate_left
      ·intro W hSw;go_simp;try (with_reducible rfl)
      try simp only[Act.put,sA,sZ,sS]
      refine tk (i:=11) (oi:=⟨some 139,_,_,_,_,_⟩) (v:=?_) rfl (Or.inl ⟨by rfl,?_⟩) ?_
      rotate_left
      ·intro W hSw;go_simp;try (with_reducible rfl)
      try simp only[Act.put,sA,sZ,sS]
      refine tk (i:=12) (oi:=⟨some 140,_,_,_,_,_⟩) (v:=?_) rfl (Or.inl ⟨by rfl,?_⟩) ?_
      rotate_left
      ·intro W hSw;go_simp;try (with_reducible rfl)
      try simp only[Act.put,sA,sZ,sS]
      refine wpAnyH_ready (rs:=[9]) (by kernel_rfl) (by simp) ?_
      refine AllReadyH.cons (o:=⟨some 137,_,_,_,_,_⟩) rfl (fun K hK=>?_) AllReadyH.nil
      go_simp
      ((refine(HHv.out _ Z1.out).mono ?_);rintro e z2 ⟨rfl,hb⟩;have Z2:=jH (Z1.out.trans (hb.mono Z1.out.size));clear hb)
      try go_wp2_with fail
      refine hK.out _ _ (by exact trivial) (fun hHeld=>?_)
      clear hK K
      try simp only[Act.put,sA,sZ,sS]
      refine wpAnyH_ready (rs:=[13]) (by kernel_rfl) (by simp) ?_
      refine AllReadyH.cons (o:=⟨some 141,_,_,_,_,_⟩) rfl (fun K hK=>?_) AllReadyH.nil
      go_simp
      ((refine(HHw.out _ Z2.out).mono ?_);rintro e z3 ⟨rfl,hb⟩;have Z3:=jH (Z2.out.trans (hb.mono Z2.out.size));clear hb)
      try go_wp2_with fail
      refine hK.out _ _ (by exact trivial) (fun hHeld=>?_)
      clear hK K
      try simp only[Act.put,sA,sZ,sS]
      refine tk (i:=14) (oi:=⟨some 142,_,_,_,_,_⟩) (v:=?_) rfl (Or.inl ⟨by rfl,?_⟩) ?_
      rotate_left
      ·intro W hSw;go_simp;try (with_reducible rfl)
      try simp only[Act.put,sA,sZ,sS]
      refine tk (i:=15) (oi:=⟨some 143,_,_,_,_,_⟩) (v:=?_) rfl (Or.inl ⟨by rfl,?_⟩) ?_
      rotate_left
      ·intro W hSw;go_simp;try (with_reducible rfl)
      try simp only[Act.put,sA,sZ,sS]
      refine wpAnyH_done (by kernel_rfl) ?_ _
      refine NoPanic.normal ?_
      clear HSm
      go_upto_region 27 with fail
      go_loopw [22] (fun i wz=> ∃x:Nat,x≤E+32∧i= .int .u64 (x:Int)∧Hid (Below w5.heap.size w5 wz)) (fun i _=>E+32-Vg.natOf i)
      case atStart=>exact⟨0,Nat.zero_le _,rfl,Z3⟩
      case round=>
       rename World=>wz
       obtain⟨x,hx,rfl,hbz⟩:=hrel
       by_cases hlt2:x<E+24
       ·have dd1:decide ((x:Int)<((E+24:Nat):Int))=true:=by simp;omega
        have hw8:IntKind.u64.wrap ((x:Int)+8)=((x+8:Nat):Int):=by rw[IntKind.wrap_u64];omega
        have HSz:=jH (sameat_yes x wz (HVs.out.below hbz.out))
        go_wp2_with(first
         |(go_at_call 19;(refine(HEw.out _ hbz.out).mono ?_);rintro e y1 ⟨rfl,rfl⟩)
         |(go_at_call 20;(refine HSz.out.mono ?_);rintro e y2 ⟨rfl,hb2⟩;have S2:=jH (hbz.out.trans (hb2.mono hbz.out.size));clear hb2)
         |fail)
        go_roundw
        case rel=>exact⟨x+8,by omega,rfl,S2⟩
        case measure=>simp[Vg.natOf];omega
       ·have dd1:decide ((x:Int)<((E+24:Nat):Int))=false:=by simp;omega
        go_wp2_with(first
         |(go_at_call 19;(refine(HEw.out _ hbz.out).mono ?_);rintro e y1 ⟨rfl,rfl⟩)
         |fail)
        go_ret
        exact⟨rfl,B5.out.trans (hbz.out.mono B5.out.size)⟩
   ·go_upto_region 17 with(first
     |(go_at_call 17;(refine(HTw.out _ S6.out (.inr rfl)).mono ?_);rintro e w7 ⟨hb7,A7,c7,rfl,hi7⟩;have S7:=jH (S6.out.trans (hb7.mono S6.out.size));have I7:=jH hi7;have I67:=jH (In2.older I6.out hb7);clear hb7 hi7)
     |fail)
    have hne1:((tn:Int)!=(tn:Int))=false:=by simp
    have hne2:(tc !=tc)=false:=by simp
    have hne3:((E:Int)!=(E:Int))=false:=by simp
    go_upto_region 20 with(first
     |(go_at_call 18;(refine(HEv.out _ S7.out).mono ?_);rintro e y1 ⟨rfl,rfl⟩)
     |(go_at_call 19;(refine(HEw.out _ S7.out).mono ?_);rintro e y1 ⟨rfl,rfl⟩)
     |fail)
    clear hne1 hne2 hne3
    go_loopw [21] (fun i wr=> ∃j:Nat,j≤tn∧i= .int .i64 (j:Int)∧Hid (Below w5.heap.size w5 wr)∧Hid (Below w7.heap.size w7 wr)) (fun i _=>tn-Vg.natOf i)
    case atStart=>exact⟨0,Nat.zero_le _,rfl,S7,jH (Below.refl _ _)⟩
    case round=>
     obtain⟨j,hj,rfl,hbr,hb7⟩:=hrel
     by_cases hlt:j<tn
     ·obtain⟨b1,o1,rfl,_,p1,p1',_⟩:=(In2.older I7.out hb7.out.drew) j hlt
      obtain⟨b2,o2,rfl,_,q1,q1',_⟩:=(In2.older I67.out hb7.out.drew) j hlt
      have hj0:(0:Int)≤(j:Int):=by omega
      have hjn:(j:Int)<(tn:Int):=by omega
      generalize fa j=fx at*
      generalize fb j=gx at*
      go_wp2
      go_region
      all_goals
       go_wp2
       go_roundw
       case rel=>exact⟨j+1,by omega,by go_num,jH hbr.out.drew,jH hb7.out.drew⟩
       case measure=>simp[Vg.natOf];omega
     ·have hjt:j=tn:=by omega
      have dj:decide ((j:Int)<(tn:Int))=false:=by simp<;>omega
      have HSm:=jH (sameat_yes pl wr.drew (HVs.out.below hbr.out.drew))
      go_upto_region 24 with fail
      clear dj hjt
      refine wp_region_noPanic ?_
      refine wp_region_held_drew (S:=fun W:World=>True) (by kernel_rfl) (by exact trivial) (fun hHeld=>?_)
      refine tk (i:=0) (oi:=⟨some 128,_,_,_,_,_⟩) (v:=?_) rfl (Or.inl ⟨by rfl,?_⟩) ?_
      rotate_left
      ·intro W hSw;go_simp;try (with_reducible rfl)
      try simp only[Act.put,sA,sZ,sS]
      refine tk (i:=1) (oi:=⟨some 129,_,_,_,_,_⟩) (v:=?_) rfl (Or.inl ⟨by rfl,?_⟩) ?_
      rotate_left
      ·intro W hSw;go_simp;try (with_reducible rfl)
      try simp only[Act.put,sA,sZ,sS]
      refine tk (i:=2) (oi:=⟨some 130,_,_,_,_,_⟩) (v:=?_) rfl (Or.inl ⟨by rfl,?_⟩) ?_
      rotate_left
      ·intro W hSw;go_simp;try (with_reducible rfl)
      try simp only[Act.put,sA,sZ,sS]
      refine wpAnyH_ready (rs:=[3]) (by kernel_rfl) (by simp) ?_
      refine AllReadyH.cons (o:=⟨some 131,_,_,_,_,_⟩) rfl (fun K hK=>?_) AllReadyH.nil
      go_simp
      ((refine HSm.out.mono ?_);rintro e z1 ⟨rfl,hb⟩;have Z1:=jH (hbr.out.drew.trans (hb.mono hbr.out.size));clear hb)
      try go_wp2_with fail
      refine hK.out _ _ (by exact trivial) (fun hHeld=>?_)
      clear hK K
      try simp only[Act.put,sA,sZ,sS]
      refine tk (i:=4) (oi:=⟨some 132,_,_,_,_,_⟩) (v:=?_) rfl (Or.inl ⟨by rfl,?_⟩) ?_
      rotate_left
      ·intro W hSw;go_simp;try (with_reducible rfl)
      try simp only[Act.put,sA,sZ,sS]
      refine tk (i:=5) (oi:=⟨some 133,_,_,_,_,_⟩) (v:=?_) rfl (Or.inl ⟨by rfl,?_⟩) ?_
      rotate_left
      ·intro W hSw;go_simp;try (with_reducible rfl)
      try simp only[Act.put,sA,sZ,sS]
      refine tk (i:=6) (oi:=⟨some 134,_,_,_,_,_⟩) (v:=?_) rfl (Or.inl ⟨by rfl,?_⟩) ?_
      rotate_left
      ·intro W hSw;go_simp;try (with_reducible rfl)
      try simp only[Act.put,sA,sZ,sS]
      refine tk (i:=7) (oi:=⟨some 135,_,_,_,_,_⟩) (v:=?_) rfl (Or.inl ⟨by rfl,?_⟩) ?_
      rotate_left
      ·intro W hSw;go_simp;try (with_reducible rfl)
      try simp only[Act.put,sA,sZ,sS]
      refine tk (i:=8) (oi:=⟨some 136,_,_,_,_,_⟩) (v:=?_) rfl (Or.inl ⟨by rfl,?_⟩) ?_
      rotate_left
      ·intro W hSw;go_simp;try (with_reducible rfl)
      try simp only[Act.put,sA,sZ,sS]
      refine tk (i:=10) (oi:=⟨some 138,_,_,_,_,_⟩) (v:=?_) rfl (Or.inl ⟨by rfl,?_⟩) ?_
      rotate_left
      ·intro W hSw;go_simp;try (with_reducible rfl)
      try simp only[Act.put,sA,sZ,sS]
      refine tk (i:=11) (oi:=⟨some 139,_,_,_,_,_⟩) (v:=?_) rfl (Or.inl ⟨by rfl,?_⟩) ?_
      rotate_left
      ·intro W hSw;go_simp;try (with_reducible rfl)
      try simp only[Act.put,sA,sZ,sS]
      refine tk (i:=12) (oi:=⟨some 140,_,_,_,_,_⟩) (v:=?_) rfl (Or.inl ⟨by rfl,?_⟩) ?_
      rotate_left
      ·intro W hSw;go_simp;try (with_reducible rfl)
      try simp only[Act.put,sA,sZ,sS]
      refine wpAnyH_ready (rs:=[9]) (by kernel_rfl) (by simp) ?_
      refine AllReadyH.cons (o:=⟨some 137,_,_,_,_,_⟩) rfl (fun K hK=>?_) AllReadyH.nil
      go_simp
      ((refine(HHv.out _ Z1.out).mono ?_);rintro e z2 ⟨rfl,hb⟩;have Z2:=jH (Z1.out.trans (hb.mono Z1.out.size));clear hb)
      try go_wp2_with fail
      refine hK.out _ _ (by exact trivial) (fun hHeld=>?_)
      clear hK K
      try simp only[Act.put,sA,sZ,sS]
      refine wpAnyH_ready (rs:=[13]) (by kernel_rfl) (by simp) ?_
      refine AllReadyH.cons (o:=⟨some 141,_,_,_,_,_⟩) rfl (fun K hK=>?_) AllReadyH.nil
      go_simp
      ((refine(HHw.out _ Z2.out).mono ?_);rintro e z3 ⟨rfl,hb⟩;have Z3:=jH (Z2.out.trans (hb.mono Z2.out.size));clear hb)
      try go_wp2_with fail
      refine hK.out _ _ (by exact trivial) (fun hHeld=>?_)
      clear hK K
      try simp only[Act.put,sA,sZ,sS]
      refine tk (i:=14) (oi:=⟨some 142,_,_,_,_,_⟩) (v:=?_) rfl (Or.inl ⟨by rfl,?_⟩) ?_
      rotate_left
      ·intro W hSw;go_simp;try (with_reducible rfl)
      try simp only[Act.put,sA,sZ,sS]
      refine tk (i:=15) (oi:=⟨some 143,_,_,_,_,_⟩) (v:=?_) rfl (Or.inl ⟨by rfl,?_⟩) ?_
      rotate_left
      ·intro W hSw;go_simp;try (with_reducible rfl)
      try simp only[Act.put,sA,sZ,sS]
      refine wpAnyH_done (by kernel_rfl) ?_ _
      refine NoPanic.normal ?_
      clear HSm
      go_upto_region 27 with fail
      go_loopw [22] (fun i wz=> ∃x:Nat,x≤E+32∧i= .int .u64 (x:Int)∧Hid (Below w5.heap.size w5 wz)) (fun i _=>E+32-Vg.natOf i)
      case atStart=>exact⟨0,Nat.zero_le _,rfl,Z3⟩
      case round=>
       rename World=>wz
       obtain⟨x,hx,rfl,hbz⟩:=hrel
       by_cases hlt2:x<E+24
       ·have dd1:decide ((x:Int)<((E+24:Nat):Int))=true:=by simp;omega
        have hw8:IntKind.u64.wrap ((x:Int)+8)=((x+8:Nat):Int):=by rw[IntKind.wrap_u64];omega
        have HSz:=jH (sameat_yes x wz (HVs.out.below hbz.out))
        go_wp2_with(first
         |(go_at_call 19;(refine(HEw.out _ hbz.out).mono ?_);rintro e y1 ⟨rfl,rfl⟩)
         |(go_at_call 20;(refine HSz.out.mono ?_);rintro e y2 ⟨rfl,hb2⟩;have S2:=jH (hbz.out.trans (hb2.mono hbz.out.size));clear hb2)
         |fail)
        go_roundw
        case rel=>exact⟨x+8,by omega,rfl,S2⟩
        case measure=>simp[Vg.natOf];omega
       ·have dd1:decide ((x:Int)<((E+24:Nat):Int))=false:=by simp;omega
        go_wp2_with(first
         |(go_at_call 19;(refine(HEw.out _ hbz.out).mono ?_);rintro e y1 ⟨rfl,rfl⟩)
         |fail)
        go_ret
        exact⟨rfl,B5.out.trans (hbz.out.mono B5.out.size)⟩
  ·obtain⟨e1,e2⟩:=HC1.out hk
   subst e1
   subst e2
   have dk4:(kd==4)=false:=by simp;omega
   have dk5:(kd==5)=false:=by simp;omega
   obtain⟨w7,hw7⟩: ∃y,y=w6:=⟨_,rfl⟩
   subst hw7
   have S7:=S6
   have I67:=I6
   have I7:=jH (show In2 w7 none 0 fa fb from fun i hi=>absurd hi (Nat.not_lt_zero i))
   go_upto_region 17 with fail
   skip
   have hne3:((E:Int)!=(E:Int))=false:=by simp
   go_upto_region 20 with(first
    |(go_at_call 18;(refine(HEv.out _ S7.out).mono ?_);rintro e y1 ⟨rfl,rfl⟩)
    |(go_at_call 19;(refine(HEw.out _ S7.out).mono ?_);rintro e y1 ⟨rfl,rfl⟩)
    |fail)
   clear hne3
   go_loopw [21] (fun i wr=> ∃j:Nat,j≤0∧i= .int .i64 (j:Int)∧Hid (Below w5.heap.size w5 wr)∧Hid (Below w7.heap.size w7 wr)) (fun i _=>0-Vg.natOf i)
   case atStart=>exact⟨0,Nat.zero_le _,rfl,S7,jH (Below.refl _ _)⟩
   case round=>
    obtain⟨j,hj,rfl,hbr,hb7⟩:=hrel
    by_cases hlt:j<0
    ·exact absurd hlt (Nat.not_lt_zero j)
    ·have hjt:j=0:=by omega
     have dj:decide ((j:Int)<(0:Int))=false:=by simp<;>omega
     have HSm:=jH (sameat_yes pl wr.drew (HVs.out.below hbr.out.drew))
     go_upto_region 24 with fail
     clear dj hjt
     refine wp_region_noPanic ?_
     refine wp_region_held_drew (S:=fun W:World=>True) (by kernel_rfl) (by exact trivial) (fun hHeld=>?_)
     refine tk (i:=0) (oi:=⟨some 128,_,_,_,_,_⟩) (v:=?_) rfl (Or.inl ⟨by rfl,?_⟩) ?_
     rotate_left
     ·intro W hSw;go_simp;try (with_reducible rfl)
     try simp only[Act.put,sA,sZ,sS]
     refine tk (i:=1) (oi:=⟨some 129,_,_,_,_,_⟩) (v:=?_) rfl (Or.inl ⟨by rfl,?_⟩) ?_
     rotate_left
     ·intro W hSw;go_simp;try (with_reducible rfl)
     try simp only[Act.put,sA,sZ,sS]
     refine tk (i:=2) (oi:=⟨some 130,_,_,_,_,_⟩) (v:=?_) rfl (Or.inl ⟨by rfl,?_⟩) ?_
     rotate_left
     ·intro W hSw;go_simp;try (with_reducible rfl)
     try simp only[Act.put,sA,sZ,sS]
     refine wpAnyH_ready (rs:=[3]) (by kernel_rfl) (by simp) ?_
     refine AllReadyH.cons (o:=⟨some 131,_,_,_,_,_⟩) rfl (fun K hK=>?_) AllReadyH.nil
     go_simp
     ((refine HSm.out.mono ?_);rintro e z1 ⟨rfl,hb⟩;have Z1:=jH (hbr.out.drew.trans (hb.mono hbr.out.size));clear hb)
     try go_wp2_with fail
     refine hK.out _ _ (by exact trivial) (fun hHeld=>?_)
     clear hK K
     try simp only[Act.put,sA,sZ,sS]
     refine tk (i:=4) (oi:=⟨some 132,_,_,_,_,_⟩) (v:=?_) rfl (Or.inl ⟨by rfl,?_⟩) ?_
     rotate_left
     ·intro W hSw;go_simp;try (with_reducible rfl)
     try simp only[Act.put,sA,sZ,sS]
     refine tk (i:=5) (oi:=⟨some 133,_,_,_,_,_⟩) (v:=?_) rfl (Or.inl ⟨by rfl,?_⟩) ?_
     rotate_left
     ·intro W hSw;go_simp;try (with_reducible rfl)
     try simp only[Act.put,sA,sZ,sS]
     refine tk (i:=6) (oi:=⟨some 134,_,_,_,_,_⟩) (v:=?_) rfl (Or.inl ⟨by rfl,?_⟩) ?_
     rotate_left
     ·intro W hSw;go_simp;try (with_reducible rfl)
     try simp only[Act.put,sA,sZ,sS]
     refine tk (i:=7) (oi:=⟨some 135,_,_,_,_,_⟩) (v:=?_) rfl (Or.inl ⟨by rfl,?_⟩) ?_
     rotate_left
     ·intro W hSw;go_simp;try (with_reducible rfl)
     try simp only[Act.put,sA,sZ,sS]
     refine tk (i:=8) (oi:=⟨some 136,_,_,_,_,_⟩) (v:=?_) rfl (Or.inl ⟨by rfl,?_⟩) ?_
     rotate_left
     ·intro W hSw;go_simp;try (with_reducible rfl)
     try simp only[Act.put,sA,sZ,sS]
     refine tk (i:=10) (oi:=⟨some 138,_,_,_,_,_⟩) (v:=?_) rfl (Or.inl ⟨by rfl,?_⟩) ?_
     rotate_left
     ·intro W hSw;go_simp;try (with_reducible rfl)
     try simp only[Act.put,sA,sZ,sS]
     refine tk (i:=11) (oi:=⟨some 139,_,_,_,_,_⟩) (v:=?_) rfl (Or.inl ⟨by rfl,?_⟩) ?_
     rotate_left
     ·intro W hSw;go_simp;try (with_reducible rfl)
     try simp only[Act.put,sA,sZ,sS]
     refine tk (i:=12) (oi:=⟨some 140,_,_,_,_,_⟩) (v:=?_) rfl (Or.inl ⟨by rfl,?_⟩) ?_
     rotate_left
     ·intro W hSw;go_simp;try (with_reducible rfl)
     try simp only[Act.put,sA,sZ,sS]
     refine wpAnyH_ready (rs:=[9]) (by kernel_rfl) (by simp) ?_
     refine AllReadyH.cons (o:=⟨some 137,_,_,_,_,_⟩) rfl (fun K hK=>?_) AllReadyH.nil
     go_simp
     ((refine(HHv.out _ Z1.out).mono ?_);rintro e z2 ⟨rfl,hb⟩;have Z2:=jH (Z1.out.trans (hb.mono Z1.out.size));clear hb)
     try go_wp2_with fail
     refine hK.out _ _ (by exact trivial) (fun hHeld=>?_)
     clear hK K
     try simp only[Act.put,sA,sZ,sS]
     refine wpAnyH_ready (rs:=[13]) (by kernel_rfl) (by simp) ?_
     refine AllReadyH.cons (o:=⟨some 141,_,_,_,_,_⟩) rfl (fun K hK=>?_) AllReadyH.nil
     go_simp
     ((refine(HHw.out _ Z2.out).mono ?_);rintro e z3 ⟨rfl,hb⟩;have Z3:=jH (Z2.out.trans (hb.mono Z2.out.size));clear hb)
     try go_wp2_with fail
     refine hK.out _ _ (by exact trivial) (fun hHeld=>?_)
     clear hK K
     try simp only[Act.put,sA,sZ,sS]
     refine tk (i:=14) (oi:=⟨some 142,_,_,_,_,_⟩) (v:=?_) rfl (Or.inl ⟨by rfl,?_⟩) ?_
     rotate_left
     ·intro W hSw;go_simp;try (with_reducible rfl)
     try simp only[Act.put,sA,sZ,sS]
     refine tk (i:=15) (oi:=⟨some 143,_,_,_,_,_⟩) (v:=?_) rfl (Or.inl ⟨by rfl,?_⟩) ?_
     rotate_left
     ·intro W hSw;go_simp;try (with_reducible rfl)
     try simp only[Act.put,sA,sZ,sS]
     refine wpAnyH_done (by kernel_rfl) ?_ _
     refine NoPanic.normal ?_
     clear HSm
     go_upto_region 27 with fail
     go_loopw [22] (fun i wz=> ∃x:Nat,x≤E+32∧i= .int .u64 (x:Int)∧Hid (Below w5.heap.size w5 wz)) (fun i _=>E+32-Vg.natOf i)
     case atStart=>exact⟨0,Nat.zero_le _,rfl,Z3⟩
     case round=>
      rename World=>wz
      obtain⟨x,hx,rfl,hbz⟩:=hrel
      by_cases hlt2:x<E+24
      ·have dd1:decide ((x:Int)<((E+24:Nat):Int))=true:=by simp;omega
       have hw8:IntKind.u64.wrap ((x:Int)+8)=((x+8:Nat):Int):=by rw[IntKind.wrap_u64];omega
       have HSz:=jH (sameat_yes x wz (HVs.out.below hbz.out))
       go_wp2_with(first
        |(go_at_call 19;(refine(HEw.out _ hbz.out).mono ?_);rintro e y1 ⟨rfl,rfl⟩)
        |(go_at_call 20;(refine HSz.out.mono ?_);rintro e y2 ⟨rfl,hb2⟩;have S2:=jH (hbz.out.trans (hb2.mono hbz.out.size));clear hb2)
        |fail)
       go_roundw
       case rel=>exact⟨x+8,by omega,rfl,S2⟩
       case measure=>simp[Vg.natOf];omega
      ·have dd1:decide ((x:Int)<((E+24:Nat):Int))=false:=by simp;omega
       go_wp2_with(first
        |(go_at_call 19;(refine(HEw.out _ hbz.out).mono ?_);rintro e y1 ⟨rfl,rfl⟩)
        |fail)
       go_ret
       exact⟨rfl,B5.out.trans (hbz.out.mono B5.out.size)⟩
 ·have HOp:=jH fun(W:World) (hW:Bytes W A l)=>open_bad l A n c W hW hL (by omega) hcap.1 hz
  have HQ:=jH fun(W:World) (hW:Bytes W A l)=>ropen_bad l A n c W hW hL (by omega) hcap.1 hz
  have d2:(hcode l n !=0)=true:=by simpa using hz
  have d3:(hcode l n !=hcode l n)=false:=by simp
  generalize hcode l n=cd at*
  clear hb
  go_wp2_with(first
   |(go_at_call 14;((refine(HOp.out _ HB.out).mono ?_);rintro e w4 ⟨rfl,hb4⟩;have B4:=jH (B3.out.trans (hb4.mono B3.out.size));have HB4:=jH (HB.out.below hb4 (jR _));clear hb4))
   |(go_at_call 15;((refine(HQ.out _ HB4.out).mono ?_);rintro e w5 ⟨rfl,hb5⟩;have B5:=jH (B4.out.trans (hb5.mono B4.out.size));clear hb5))
   |fail)
  go_ret
  exact⟨rfl,B5.out⟩
theorem walk (a:Option Addr)(len cap:Nat)(z:List Int)(P:Option Addr)(k kc:Nat)(zp:List Int)(y:Int)(p:Int)(kd:Int)(w:World)(h:IsRow .i64 w a len cap z)(hp:IsRow .i64 w P k kc zp)(hy:(Lit.int .u8 y).wf=true)(hpl:(Lit.int .u64 p).wf=true)(hkd:(Lit.int .i64 kd).wf=true):
 Calls Tryz.prog 3 #[.slice a len cap,.slice P k kc,.int .u8 y,.int .u64 p,.int .i64 kd] w fun e w'=>e= .returned (.bool true)∧Below w.heap.size w w':=by
 obtain⟨hI,h2,h3⟩:=ints_in h
 obtain⟨hP,h4,h5⟩:=ints_in hp
 have hy0:0≤y∧y<256:=by
  simp[Lit.wf,IntKind.min,IntKind.max,IntKind.signed,IntKind.bits]at hy
  omega
 have hp0:0≤p:=by
  simp[Lit.wf,IntKind.min,IntKind.max,IntKind.signed,IntKind.bits]at hpl
  omega
 obtain⟨q,rfl⟩: ∃q:Nat,p=(q:Int):=⟨p.toNat,by omega⟩
 by_cases h1:len≤80∧k≤8
 ·exact walk_main a len cap _ P k kc _ y q kd w hI h1.1 hP h1.2 hy0
 ·by_cases h6:len≤80
  ·have d1:decide ((80:Int)<(len:Int))=false:=by simp;omega
   have d2:decide ((8:Int)<(k:Int))=true:=by simp;omega
   clear h hp hI hP
   go_enter Tryz.func3,Tryz.ntmps3
   go_wp2_with(go_at_call 11;((with_reducible refine(first_arena _).mono ?_);rintro e w1 ⟨rfl,hb1⟩;have B1:=jH hb1;clear hb1))
   go_ret
   exact⟨rfl,B1.out⟩
  ·have d1:decide ((80:Int)<(len:Int))=true:=by simp;omega
   clear h hp hI hP
   go_enter Tryz.func3,Tryz.ntmps3
   go_wp2_with(go_at_call 11;((with_reducible refine(first_arena _).mono ?_);rintro e w1 ⟨rfl,hb1⟩;have B1:=jH hb1;clear hb1))
   go_ret
   exact⟨rfl,B1.out⟩
end ArenaSaysW
end Go.Proofs.YtelmgldkgccecaaGreat
