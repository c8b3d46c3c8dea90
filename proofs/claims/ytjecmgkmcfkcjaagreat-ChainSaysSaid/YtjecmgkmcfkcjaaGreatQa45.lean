/-
  Texts beneath the proof.
-/
import Derived.Test.YtjecmgkmcfkcjaaGreatQa1
import Derived.Test.YtjecmgkmcfkcjaaGreatQa44
import Derived.Test.YtjecmgkmcfkcjaaGreatQa42
import Derived.Test.YtjecmgkmcfkcjaaGreatQa30
import Derived.Test.YtjecmgkmcfkcjaaGreatQa29
import Derived.Test.YtjecmgkmcfkcjaaGreatQa32
set_option linter.unusedVariables false
set_option linter.unusedSimpArgs false
set_option maxRecDepth 100000
set_option maxHeartbeats 8000000
open Go.ChangeShapes Go.WideShapes Go.ChangeAt Go.RowKit
namespace Go.Proofs.YtjecmgkmcfkcjaaGreat
namespace Xj
open Bytes8 Blk8 Own8 OwnE Rows2 Ga Gb Ok7 Np Pr8 Rc Va Vf Wa Wg Xb Xh Fa Mg
open Ye Dc
open Rd (dcode)
open Rf (fcode)
open Ym (wordElt)
theorem seek_nn (E:Nat)(oC:Nat→Int)(oX:Nat→Nat)(oH:Nat→Int)(oP:Nat→List Int)(hv:Int)(pl:List Int): ∀(f a last:Nat),0≤(seek E oC oX oH oP hv pl f a last).1
 |0,a,last=>Int.le_refl 0
 |f+1,a,last=>by
  unfold seek
  split
  ·exact Int.le_refl 0
  ·split
   ·exact Int.le_refl 0
   ·split
    ·exact Int.le_refl 0
    ·split
     ·show(0:Int)≤(a:Int);omega
     ·exact seek_nn E oC oX oH oP hv pl f _ _
theorem find5_nn (h:HD)(l:List Int)(n:Nat)(t:List Int):0≤(find5 h l n t).1:=by
 unfold find5
 split
 ·exact Int.le_refl 0
 ·exact seek_nn ..
def natS:Value→Nat
 | .slice _ m _=>m
 |_=>0
attribute [local irreducible] HD.cells wpList Code.wp
theorem rfindfield_any {gv:Nat}{h:HD}{d:Int}{A:Option Addr}{n c:Nat}{l:List Int}(nm:List Int)(w:World)(v:ViewR w gv h d A n c l)(hA:AllB nm)(hl:nm.length≤800000)(htn:tCode h l 5=0→0<tNum h l 5∧tNum h l 5≤1000000):
 Calls Tryz.prog 23 #[.pointer (some ⟨gv,0,none⟩),.string (T nm)] w fun e w'=>e= .returned (.tuple #[.int .u64 (find5 h l n nm).1,.int .i64 (find5 h l n nm).2])∧Below w.heap.size w w':=by
 have HF:=jH fun(A0:Option Addr) (c0:Nat) (W:World) (hW:Below w.heap.size w W) (hb0:Bytes W A0 nm) (hc0:nm.length≤c0) (hcm0:c0≤maxLen)=>rfind5_any A0 nm nm.length c0 W (v.below hW) hb0 rfl hl hc0 hcm0 htn (ofS_bd _ _ _)
 clear v htn
 generalize find5 h l n nm=R at*
 have hml:nm.length≤maxLen:=by unfold maxLen;omega
 go_enter Tryz.func23,Tryz.ntmps23
 go_wp2_with(first
  |((with_reducible apply at_slot 8);refine wpList_textc rfl (.tmp 7) rfl nm hA nm.length rfl hml w.heap.size rfl rfl ?_;intro c2 w2 hc2 hc3 hb2 hbl2;have B2:=jH hbl2;have HF2:=jH (HF.out _ c2 w2 hbl2 hb2 hc2 hc3);clear hb2 hbl2)
  |(go_at_call 80;(refine HF2.out.mono ?_);rintro e w1 ⟨rfl,hb1⟩;have B1:=jH (B2.out.trans (hb1.mono B2.out.size));clear hb1)
  |fail)
 go_ret2
 exact⟨rfl,B1.out⟩
theorem rdatas_any {gv:Nat}{h:HD}{d:Int}{A:Option Addr}{n c:Nat}{l:List Int}(nm:List Int)(w:World)(v:ViewR w gv h d A n c l)(hA:AllB nm)(hl:nm.length≤800000)(htn:tCode h l 5=0→0<tNum h l 5∧tNum h l 5≤1000000):
 Calls Tryz.prog 25 #[.pointer (some ⟨gv,0,none⟩),.string (T nm)] w (TellL (datasG h l n nm) w):=by
 have hn:=v.big
 have HFf:=jH (rfindfield_any nm w v hA hl htn)
 have HNo:=jH fun(x:Int) (W:World) (hW:Below w.heap.size w W)=>rnoth_any x W (v.below hW)
 have HOb:=jH fun(a:Nat) (W:World) (hW:Below w.heap.size w W)=>rdataTell a W (v.below hW)
 have HOf:=jH fun(a:Nat) (W:World) (hW:Below w.heap.size w W)=>rfieldTell a W (v.below hW)
 unfold TellD at HOb
 unfold TellF at HOf
 have HAB:=jH v.by_.1
 have hf9:=(find5 h l n nm)
 have hfn:=fN_nn (h:=h) (E:=n) (a:=(find5 h l n nm).1.toNat) (i:=2) v.by_.1
 have hf0:0≤(find5 h l n nm).1:=find5_nn h l n nm
 clear v hf9
 obtain⟨R,hRR⟩: ∃R,R=datasG h l n nm:=⟨_,rfl⟩
 rw[←hRR]
 unfold datasG at hRR
 unfold TellL
 generalize find5 h l n nm=F at*
 obtain⟨f1,f2⟩:=F
 dsimp only at*
 obtain⟨fa,rfl⟩: ∃q:Nat,f1=(q:Int):=⟨f1.toNat,by omega⟩
 rw[Int.toNat_natCast]at hRR hfn
 by_cases hf:f2≠0
 ·rw[if_pos hf]at hRR
  have HRf:=jH hRR
  have d1:(f2 !=0)=true:=by simpa using hf
  clear hRR hf
  go_enter Tryz.func25,Tryz.ntmps25
  go_wp2_with(first
   |(go_at_call 23;(refine HFf.out.mono ?_);rintro e w1 ⟨rfl,hb1⟩;have B1:=jH hb1;clear hb1)
   |fail)
  go_ret2
  rw[HRf.out]
  exact⟨B1.out,none,0,0,rfl,OwnE.nil _ _ (B1.out).size,rfl⟩
 rw[if_neg hf]at hRR
 have hf00:f2=0:=by simpa using hf
 subst hf00
 obtain⟨a0,ha0,ha1⟩: ∃q:Nat,fN h l n fa 2=(q:Int)∧q≤18446744073709551615:=⟨_,hfn⟩
 have HOf2:=jH fun(W:World) (hW:Below w.heap.size w W)=>HOf.out fa W hW
 rw[ha0,Int.toNat_natCast]at hRR
 rw[ha0]at HOf2
 have HR1:=jH hRR.symm
 clear hRR hf hfn ha0 HOf
 generalize fN h l n fa 0=y0 at*
 generalize fN h l n fa 1=y1 at*
 generalize fP h l n fa=yp at*
 generalize fcode h l n fa=yc at*
 go_enter Tryz.func25,Tryz.ntmps25
 go_upto_region 6 with(first
  |(go_at_call 23;(refine HFf.out.mono ?_);rintro e w1 ⟨rfl,hb1⟩;have B1:=jH hb1;clear hb1)
  |(go_at_call 78;(refine(HOf2.out _ B1.out).mono ?_);rintro e w2 ⟨hb2,A2,m2,c2,rfl,_⟩;have B2:=jH (B1.out.trans (hb2.mono B1.out.size));clear hb2)
  |fail)
 have B3:=jH (B2.out.alloc B2.out.size (.cells #[.int .u64 y0,.int .u64 y1,.int .u64 (a0:Int),.slice A2 m2 c2] 152))
 have R3:=jH (Blk.new w2 [.int .u64 y0,.int .u64 y1,.int .u64 (a0:Int),.slice A2 m2 c2] 152)
 clear B1 B2 HFf HOf2
 generalize (w2.alloc (.cells #[.int .u64 y0,.int .u64 y1,.int .u64 (a0:Int),.slice A2 m2 c2] 152))=w3 at*
 generalize w2.heap.size=g2 at*
 have k2:=R3.out.cell (i:=2) rfl
 have O1:=jH (show OwnE 40 1 w3 w.heap.size none 0 0 (([]:List Int).map (Value.int .u64))from OwnE.nil w3 w.heap.size B3.out.size)
 go_wp2
 go_loopw [10,11] (fun s x wr=> ∃(out:List Int) (m a f:Nat) (la:Option Nat) (A1:Option Addr) (c1:Nat),s= .slice A1 m c1∧x= .int .u64 (a:Int)∧Hid (plR (yk n false (dcode h l n) (fun a=>(dN h l n a 2).toNat) f a la) out=R)∧Hid (OwnE 40 1 wr w.heap.size A1 m c1 (out.map (Value.int .u64)))∧Hid (out.length=m∧f+m=n+2∧a≤18446744073709551615)∧Hid (enough n false f la)∧Hid ((m=0∧la=none)∨(0<m∧ ∃z:Nat,la=some z∧lastI out=(z:Int)))∧Hid (Below w.heap.size w wr)) (fun s _ _=>n+2-natS s)
 case atStart=>exact⟨[],0,a0,n+2,none,none,0,rfl,rfl,HR1,O1,jH ⟨rfl,by omega,ha1⟩,jH (jR (n+2)),jH (.inl ⟨rfl,rfl⟩),B3⟩
 case round=>
  clear k2
  obtain⟨out,m,a,f,la,A1,c1,rfl,rfl,hR,hO,hL,hE,hlast,hB⟩:=hrel
  obtain⟨f,rfl⟩: ∃q,f=q+1:=⟨f-1,by
   cases f with
   |zero=>exact absurd hE.out (fun h=>enough_0 h)
   |succ f=>omega⟩
  have hm:m≤1000002:=by have:=hL.out;omega
  have hR2:=hR.out
  unfold yk at hR2
  by_cases hno:nothB n (a:Int)=true
  ·rw[if_pos hno]at hR2
   have HRf:=jH (show R=(out,0)from hR2.symm)
   have hno':=hno
   clear hR2
   go_wp2_with(first
    |(go_at_call 76;(refine(HNo.out _ _ hB.out).mono ?_);rintro e w3 ⟨rfl,rfl⟩;(try rw[hno']))
    |fail)
   go_ret2
   rw[HRf.out]
   exact⟨hB.out,A1,m,c1,rfl,hO.out,hL.out.1⟩
  rw[if_neg hno]at hR2
  have hno':nothB n (a:Int)=false:=by simpa using hno
  obtain⟨han1,han2⟩:=nothB_is hno
  have HAN:=jH (And.intro han1 han2)
  have HO2:=jH fun(W:World) (hW:Below w.heap.size w W)=>HOb.out a W hW
  have hnx:=jH (dN_nn2 (h:=h) (E:=n) (a:=a) (i:=2) HAB.out)
  obtain⟨nx,hnx1,hnx2⟩: ∃q:Nat,dN h l n a 2=(q:Int)∧q≤18446744073709551615:=⟨_,hnx.out⟩
  clear hnx hno han1 han2
  rcases Nat.eq_zero_or_pos m with hm0|hm0
  ·have hla:la=none:=by
    rcases hlast.out with h1|h1
    ·exact h1.2
    ·omega
   subst hla
   have hnb:badW false a none=false:=rfl
   rw[hnb,if_neg (by simp)]at hR2
   have e4:decide ((m:Int)>0)=false:=by simp;omega
   have e5:decide (0<m)=false:=by simp;omega
   have e6:decide ((0:Int)<(m:Int))=false:=by simp;omega
   clear hm0
   simp only[hnx1,Int.toNat_natCast]at HO2 hR2
   clear hnx1
   generalize hcd0:dcode h l n a=cd at HO2 hR2
   generalize dP h l n a=pa at HO2
   generalize dN h l n a 0=x0 at HO2
   generalize dN h l n a 1=x1 at HO2
   generalize dN h l n a 3=x3 at HO2
   generalize dN h l n a 4=x4 at HO2
   generalize dN h l n a 5=x5 at HO2
   clear hcd0
   by_cases hcd:cd≠0
   ·rw[if_pos hcd]at hR2
    have hR3:R=([],cd):=by
     rw[←hR2]
     show(if cd≠0 then _ else _)=_
     rw[if_pos hcd]
    have HRf:=jH hR3
    have f1:decide (cd=0)=false:=by simpa using hcd
    have f3:(cd !=0)=true:=by simpa using hcd
    clear hR2 hR3 hcd
    go_wp2_with(first
     |(go_at_call 76;(refine(HNo.out _ _ hB.out).mono ?_);rintro e w3 ⟨rfl,rfl⟩;(try rw[hno']))
     |(go_at_call 77;(refine(HO2.out _ hB.out).mono ?_);rintro e w4 ⟨hb4,A4,m4,c4,rfl,_⟩;have B4:=jH (hB.out.trans (hb4.mono hB.out.size));clear hb4)
     |fail)
    go_ret2
    rw[HRf.out]
    have B5:=B4.out.alloc B4.out.size (.cells ([.int .u64 x0,.int .u64 x1,.int .u64 (nx:Int),.int .u64 x3,.int .u64 x4,.int .u64 x5,.slice A4 m4 c4]:List Value).toArray 149)
    exact⟨B5,none,0,0,rfl,OwnE.nil _ _ B5.size,rfl⟩
   ·rw[if_neg hcd]at hR2
    have hcd0:cd=0:=by simpa using hcd
    subst hcd0
    have HRn:=jH (show plR (yk n false (dcode h l n) (fun a=>(dN h l n a 2).toNat) f nx (some a)) (out++ [(a:Int)])=R from by
     rw[←hR2]
     show _=(if(0:Int)≠0 then _ else _)
     rw[if_neg (by simp)])
    clear hcd hR2
    go_upto_region 13 with(first
     |(go_at_call 76;(refine(HNo.out _ _ hB.out).mono ?_);rintro e w3 ⟨rfl,rfl⟩;(try rw[hno']))
     |(go_at_call 77;(refine(HO2.out _ hB.out).mono ?_);rintro e w4 ⟨hb4,A4,m4,c4,rfl,hy4,hl4,hc4⟩;have B4:=jH (hB.out.trans (hb4.mono hB.out.size));have O4:=jH (hO.out.kept hb4 (jR _));clear hb4 hy4 hl4 hc4)
     |fail)
    have R5:=jH (Blk.new w4 [.int .u64 x0,.int .u64 x1,.int .u64 (nx:Int),.int .u64 x3,.int .u64 x4,.int .u64 x5,.slice A4 m4 c4] 149)
    have B5:=jH (B4.out.alloc B4.out.size (.cells ([.int .u64 x0,.int .u64 x1,.int .u64 (nx:Int),.int .u64 x3,.int .u64 x4,.int .u64 x5,.slice A4 m4 c4]:List Value).toArray 149))
    have O5:=jH (O4.out.alloc (.cells ([.int .u64 x0,.int .u64 x1,.int .u64 (nx:Int),.int .u64 x3,.int .u64 x4,.int .u64 x5,.slice A4 m4 c4]:List Value).toArray 149))
    have hg4:=jH (fun k hk=>(show k<w4.heap.size from(Dc.OwnE.ltB O4.out k hk).2))
    generalize (w4.alloc (.cells ([.int .u64 x0,.int .u64 x1,.int .u64 (nx:Int),.int .u64 x3,.int .u64 x4,.int .u64 x5,.slice A4 m4 c4]:List Value).toArray 149))=w5 at*
    generalize w4.heap.size=g4 at*
    have hlt5:=R5.out.lt
    have R5a:=jH (R5.out.alloc (.cells #[.int .u64 (a:Int)] 40))
    go_upto_region 14 with(first
     |(at_builtin;refine wpList_append_elt_at wordElt rfl (.tmp 57) (.tmp 59) rfl w.heap.size A1 m c1 (out.map (Value.int .u64)) rfl (OwnE.alloc O5.out _) ⟨w5.heap.size,0,none⟩ 1 1 [.int .u64 (a:Int)] rfl rfl (Blk.news (Blk.new w5 [.int .u64 (a:Int)] 40)) (by intro u hu;simp at hu;subst hu;rfl) (by omega) (by omega) (by unfold maxLen;omega) ?_;intro A6 c6 w6 ho6 hg6 hat6;have O6:=jH ho6;have G6:=jH hg6;clear ho6 hg6 hat6)
     |fail)
    have B6:=jH ((B5.out.alloc B5.out.size (.cells #[.int .u64 (a:Int)] 40)).trans (Own8.below_grown G6.out (by have:=B5.out.size;simp;omega) (fun k hk=>(Dc.OwnE.ltB O5.out k hk).1)))
    have k2:w6.cell? ⟨g4,2,none⟩=some (.int .u64 (nx:Int)):=(World.cell?_of_block (a:=⟨g4,2,none⟩) (G6.out.block g4 R5a.out.lt (fun e=>by have h1:=(Dc.OwnE.ltB O5.out g4 e.symm).2;have h2:=hg4.out g4 e.symm;omega))).trans (R5a.out.cell (i:=2) rfl)
    go_wp2_with fail
    go_roundw
    case rel=>exact⟨out++ [(a:Int)],m+1,nx,f,some a,A6,c6,rfl,rfl,jH HRn.out,jH (by rw[List.map_append,List.map_cons,List.map_nil];exact O6.out),jH ⟨by simp[hL.out.1],by have:=hL.out.2;omega,hnx2⟩,jH (enough_next hE.out hnb HAN.out.2),jH (.inr ⟨by omega,a,rfl,lastI_snoc out (a:Int)⟩),B6⟩
    case measure=>have:=hL.out.2;simp[natS];omega
  ·obtain⟨z,hla,hlz⟩: ∃z:Nat,la=some z∧lastI out=(z:Int):=by
    rcases hlast.out with h1|h1
    ·omega
    ·exact h1.2
   subst hla
   obtain⟨m3,hm3⟩: ∃q,m=q+1:=⟨m-1,by omega⟩
   have hq:IntKind.i64.wrap ((m:Int)-1)=(m3:Int):=by rw[IntKind.wrap_i64];omega
   obtain⟨gq,hA3,_,_,hcl⟩:=hO.out.cell (i:=m3) (by rw[hO.out.len];omega)
   rw[last_cell out m3 (by have:=hL.out.1;omega),hlz]at hcl
   subst hA3
   have e4:decide ((m:Int)>0)=true:=by simp;omega
   have e5:decide (0<m)=true:=by simp;omega
   have e6:decide ((0:Int)<(m:Int))=true:=by simp;omega
   have h3l:m3<m:=by omega
   have e8:decide ((m3:Int)<(m:Int))=true:=by simp;omega
   have h3m:(m3:Int)<(m:Int):=by omega
   by_cases hbad:badW false a (some z)=true
   ·rw[if_pos hbad]at hR2
    have HRf:=jH (show R=([],12)from hR2.symm)
    have hza:z≤a:=by simpa [badW]using hbad
    have e9:decide ((z:Int)≤(a:Int))=true:=by simp;omega
    have e10:decide ((a:Int)≥(z:Int))=true:=by simp;omega
    have e11:decide (z≤a)=true:=by simp;omega
    clear hR2 hbad hza hnx1 HO2 hlz
    clear hm3
    go_wp2_with(first
     |(go_at_call 76;(refine(HNo.out _ _ hB.out).mono ?_);rintro e w3 ⟨rfl,rfl⟩;(try rw[hno']))
     |fail)
    go_ret2
    rw[HRf.out]
    exact⟨hB.out,none,0,0,rfl,OwnE.nil _ _ (hB.out).size,rfl⟩
   ·rw[if_neg hbad]at hR2
    have hnb:badW false a (some z)=false:=by simpa using hbad
    have hza: ¬z≤a:=by simpa [badW]using hbad
    have e9:decide ((z:Int)≤(a:Int))=false:=by simp;omega
    have e10:decide ((a:Int)≥(z:Int))=false:=by simp;omega
    have e11:decide (z≤a)=false:=by simp;omega
    clear hbad hza hlz
    clear hm3
    simp only[hnx1,Int.toNat_natCast]at HO2 hR2
    clear hnx1
    generalize hcd0:dcode h l n a=cd at HO2 hR2
    generalize dP h l n a=pa at HO2
    generalize dN h l n a 0=x0 at HO2
    generalize dN h l n a 1=x1 at HO2
    generalize dN h l n a 3=x3 at HO2
    generalize dN h l n a 4=x4 at HO2
    generalize dN h l n a 5=x5 at HO2
    clear hcd0
    by_cases hcd:cd≠0
    ·rw[if_pos hcd]at hR2
     have hR3:R=([],cd):=by
      rw[←hR2]
      show(if cd≠0 then _ else _)=_
      rw[if_pos hcd]
     have HRf:=jH hR3
     have f1:decide (cd=0)=false:=by simpa using hcd
     have f3:(cd !=0)=true:=by simpa using hcd
     clear hR2 hR3 hcd
     go_wp2_with(first
      |(go_at_call 76;(refine(HNo.out _ _ hB.out).mono ?_);rintro e w3 ⟨rfl,rfl⟩;(try rw[hno']))
      |(go_at_call 77;(refine(HO2.out _ hB.out).mono ?_);rintro e w4 ⟨hb4,A4,m4,c4,rfl,_⟩;have B4:=jH (hB.out.trans (hb4.mono hB.out.size));clear hb4)
      |fail)
     go_ret2
     rw[HRf.out]
     have B5:=B4.out.alloc B4.out.size (.cells ([.int .u64 x0,.int .u64 x1,.int .u64 (nx:Int),.int .u64 x3,.int .u64 x4,.int .u64 x5,.slice A4 m4 c4]:List Value).toArray 149)
     exact⟨B5,none,0,0,rfl,OwnE.nil _ _ B5.size,rfl⟩
    ·rw[if_neg hcd]at hR2
     have hcd0:cd=0:=by simpa using hcd
     subst hcd0
     have HRn:=jH (show plR (yk n false (dcode h l n) (fun a=>(dN h l n a 2).toNat) f nx (some a)) (out++ [(a:Int)])=R from by
      rw[←hR2]
      show _=(if(0:Int)≠0 then _ else _)
      rw[if_neg (by simp)])
     clear hcd hR2
     go_upto_region 13 with(first
      |(go_at_call 76;(refine(HNo.out _ _ hB.out).mono ?_);rintro e w3 ⟨rfl,rfl⟩;(try rw[hno']))
      |(go_at_call 77;(refine(HO2.out _ hB.out).mono ?_);rintro e w4 ⟨hb4,A4,m4,c4,rfl,hy4,hl4,hc4⟩;have B4:=jH (hB.out.trans (hb4.mono hB.out.size));have O4:=jH (hO.out.kept hb4 (jR _));clear hb4 hy4 hl4 hc4)
      |fail)
     have R5:=jH (Blk.new w4 [.int .u64 x0,.int .u64 x1,.int .u64 (nx:Int),.int .u64 x3,.int .u64 x4,.int .u64 x5,.slice A4 m4 c4] 149)
     have B5:=jH (B4.out.alloc B4.out.size (.cells ([.int .u64 x0,.int .u64 x1,.int .u64 (nx:Int),.int .u64 x3,.int .u64 x4,.int .u64 x5,.slice A4 m4 c4]:List Value).toArray 149))
     have O5:=jH (O4.out.alloc (.cells ([.int .u64 x0,.int .u64 x1,.int .u64 (nx:Int),.int .u64 x3,.int .u64 x4,.int .u64 x5,.slice A4 m4 c4]:List Value).toArray 149))
     have hg4:=jH (fun k hk=>(show k<w4.heap.size from(Dc.OwnE.ltB O4.out k hk).2))
     generalize (w4.alloc (.cells ([.int .u64 x0,.int .u64 x1,.int .u64 (nx:Int),.int .u64 x3,.int .u64 x4,.int .u64 x5,.slice A4 m4 c4]:List Value).toArray 149))=w5 at*
     generalize w4.heap.size=g4 at*
     have hlt5:=R5.out.lt
     have R5a:=jH (R5.out.alloc (.cells #[.int .u64 (a:Int)] 40))
     go_upto_region 14 with(first
      |(at_builtin;refine wpList_append_elt_at wordElt rfl (.tmp 57) (.tmp 59) rfl w.heap.size (some ⟨gq,0,none⟩) m c1 (out.map (Value.int .u64)) rfl (OwnE.alloc O5.out _) ⟨w5.heap.size,0,none⟩ 1 1 [.int .u64 (a:Int)] rfl rfl (Blk.news (Blk.new w5 [.int .u64 (a:Int)] 40)) (by intro u hu;simp at hu;subst hu;rfl) (by omega) (by omega) (by unfold maxLen;omega) ?_;intro A6 c6 w6 ho6 hg6 hat6;have O6:=jH ho6;have G6:=jH hg6;clear ho6 hg6 hat6)
      |fail)
     have B6:=jH ((B5.out.alloc B5.out.size (.cells #[.int .u64 (a:Int)] 40)).trans (Own8.below_grown G6.out (by have:=B5.out.size;simp;omega) (fun k hk=>(Dc.OwnE.ltB O5.out k hk).1)))
     have k2:w6.cell? ⟨g4,2,none⟩=some (.int .u64 (nx:Int)):=(World.cell?_of_block (a:=⟨g4,2,none⟩) (G6.out.block g4 R5a.out.lt (fun e=>by have h1:=(Dc.OwnE.ltB O5.out g4 e.symm).2;have h2:=hg4.out g4 e.symm;omega))).trans (R5a.out.cell (i:=2) rfl)
     go_wp2_with fail
     go_roundw
     case rel=>exact⟨out++ [(a:Int)],m+1,nx,f,some a,A6,c6,rfl,rfl,jH HRn.out,jH (by rw[List.map_append,List.map_cons,List.map_nil];exact O6.out),jH ⟨by simp[hL.out.1],by have:=hL.out.2;omega,hnx2⟩,jH (enough_next hE.out hnb HAN.out.2),jH (.inr ⟨by omega,a,rfl,lastI_snoc out (a:Int)⟩),B6⟩
     case measure=>have:=hL.out.2;simp[natS];omega
end Xj
namespace Xi
open Bytes8 Blk8 Own8 OwnM OwnE Rows2 Ob Ga Gb Gj Ma Mb Mh Na Np Ns Nt Nu Rc Rp Va Vf Wg Zb Zd Zg Zj Zl Zx Zz Zy Seq8 Kf Xh Ff
open Go1 (hcode HTold)
theorem jn_of {m:Mk}{rs:List RR}(h:Nu.Reach m rs): ∃os hs mi es,Jn m rs.length os hs mi es:=by
 obtain⟨os,hs,mi,es,k,q⟩:=kept_recs h
 obtain⟨t1,t2⟩:=tx_full h
 exact⟨os,hs,mi,es,{k:=k,dt:=t1,ft:=t2,ic:=q.ic,I:=q.I}⟩
theorem tabs {m:Mk}{n0:Nat}{os:List Za.O}{hs:Nat→List Nat}{mi:List Nat}{es:List (Nat×List Int)}(j:Jn m n0 os hs mi es){st:Int}(ht:0≤st∧st≤2):
 (tCode (hdOf (stL m st)) (stL m st) 4=0→0<tNum (hdOf (stL m st)) (stL m st) 4∧tNum (hdOf (stL m st)) (stL m st) 4≤1000000)∧(tCode (hdOf (stL m st)) (stL m st) 5=0→0<tNum (hdOf (stL m st)) (stL m st) 5∧tNum (hdOf (stL m st)) (stL m st) 5≤1000000):=by
 obtain⟨⟨_,t2,_⟩,_,t5,_⟩:=st_tab j.k ht
 have h1:=j.k.good.img.inv.ds
 have h2:=j.k.good.img.inv.fs
 rw[t2,t5]
 exact⟨fun _=>by omega,fun _=>by omega⟩
theorem empty_find {m:Mk}{os:List Za.O}{hs:Nat→List Nat}{mi:List Nat}{es:List (Nat×List Int)}(h:Nu.Reach m [])(j:Jn m 0 os hs mi es){st:Int}(ht:0≤st∧st≤2)(t:List Int):find4 (hdOf (stL m st)) (stL m st) m.b.length t=(0,16):=by
 rcases st_find4 j ht t with⟨i,hi,_⟩|⟨_,h1⟩
 ·have h2:=(tx_reach h).1
  have h3:m.datas.length=0:=by
   have:=congrArg List.length h2
   simpa [tx,allP]using this
  omega
 ·exact h1
abbrev cA:List Int:=[65,61,49]
attribute [local irreducible] HD.cells wpList Code.wp
theorem first_chain (w:World):Calls Tryz.prog 12 #[] w fun e w'=>e= .returned (.bool true)∧Below w.heap.size w w':=by
 have kc:=fun(w:World) (C:Array Value) (n c:Nat)=>Lib.run_convert_bytes_const (P:=Tryz.prog) w 23 5 C n c Tryz.underlying23 Tryz.underlying5
 have aA:AllB cA:=small_all rfl
 have HI:=jH (image_n none 0 0 (fun _=>0) 0 w (fun i hi=>absurd hi (Nat.not_lt_zero i)) (by decide) (by decide))
 unfold ImagedN at HI
 go_enter Tryz.func12,Tryz.ntmps12
 go_upto_region 2 with(first
  |(go_at_call 14;((refine HI.out.mono ?_);rintro e w2 ⟨A,c,m,n,rfl,hg2,ho2,hb2⟩;have HG:=jH hg2;have B2:=jH hb2;have HO:=jH ho2.bytes;have HC:=jH (own_cap ho2);have HOp:=jH (show Calls Tryz.prog 15 #[.slice A m.b.length c] w2 _ from open_fine (stL m 1) A m.b.length c w2 HO.out (st_len hg2.img 1) (by have:=hg2.img.lens;omega) HC.out.1 (st_hcode hg2.img (by decide)) m.b.length (st_end hg2.img (by decide)).1 (st_end hg2.img (by decide)).2 (jR _) (hdOf_ok HO.out.1 21));clear hg2 ho2 hb2;unfold Opened at HOp))
  |(go_at_call 15;((refine HOp.out.mono ?_);rintro e w3 ⟨gv,A3,c3,rfl,hgv,hv3,hc3,hb3⟩;have HV:=jH hv3;have HC3:=jH hc3;have B3:=jH (B2.out.trans (hb3.mono B2.out.size));clear hgv hv3 hc3 hb3))
  |fail)
 obtain⟨rs,hrs,hrl⟩:=HG.out.rch
 have hn0:n=0:=by have:=HG.out.le;omega
 have hr0:rs=[]:=List.eq_nil_of_length_eq_zero (by omega)
 subst hr0
 obtain⟨os,hs,mi,es,j⟩:=jn_of hrs
 have hL:=st_len HG.out.img 1
 rw[List.take_of_length_le (by omega)]at HV
 have hml:=HG.out.img.lens
 have HFd:=jH fun(W:World) (g:Nat) (hg:W.heap.size=g) (M:Nat×Nat) (hW:Below w3.heap.size w3 (W.alloc (.cells #[.int .u8 65,.int .u8 61,.int .u8 49] 5 M)))=>by
  have q:=finddata_any (some ⟨g,0,none⟩) cA 3 3 (W.alloc (.cells #[.int .u8 65,.int .u8 61,.int .u8 49] 5 M)) (HV.out.below hW) HC3.out (hg▸const_bytes cA aA W M) rfl (by decide) (by decide) (by decide) (tabs j (by decide)).1
  rw[empty_find hrs j (by decide)]at q
  exact q
 have z0:=jH ((Below.refl w3.heap.size w3).alloc (jR _) (.cells #[.int .u8 65,.int .u8 61,.int .u8 49] 5 (3,4)))
 clear HI HOp HO HC HG j hL hml hrs hrl
 go_wp2_with(first
  |(go_at_call 26;(refine(HFd.out _ _ (by simp) _ z0.out).mono ?_);rintro e w5 ⟨rfl,hb5⟩;have B5:=jH (z0.out.trans (hb5.mono z0.out.size));clear hb5)
  |fail)
 go_ret
 exact⟨rfl,B3.out.trans (B5.out.mono B3.out.size)⟩
end Xi
end Go.Proofs.YtjecmgkmcfkcjaaGreat
