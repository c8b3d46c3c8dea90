/-
  Texts beneath the proof.
-/
import Derived.Test.YtiddkgcafpaekaaGreatQs13
set_option linter.unusedVariables false
set_option linter.unusedSimpArgs false
set_option maxRecDepth 100000
set_option maxHeartbeats 8000000
open Go.ChangeShapes Go.WideShapes Go.ChangeAt Go.RowKit
namespace Go.Proofs.YtiddkgcafpaekaaGreat
namespace Yj
open Yc
theorem prs_at (f g:Nat→Int)(n i:Nat)(h:i<n):(prs f g n)[i*2]? =some (f i)∧(prs f g n)[i*2+1]? =some (g i):=by
 induction n with
 |zero=>omega
 |succ n ih=>
  have hl:=prs_len f g n
  rw[prs_succ]
  rcases Nat.lt_or_ge i n with h1|h1
  ·rw[List.getElem?_append_left (by omega),List.getElem?_append_left (by omega)]
   exact ih h1
  ·obtain rfl:i=n:=by omega
   rw[List.getElem?_append_right (by omega),List.getElem?_append_right (by omega),show i*2-(prs f g i).length=0 by omega,show i*2+1-(prs f g i).length=1 by omega]
   exact⟨rfl,rfl⟩
def Wd (f:Nat→Int)(n:Nat):Prop:= ∀i,i<n→0≤f i∧f i≤18446744073709551615
end Yj
namespace Yi
open Bytes8 Blk8 OwnE Dc Yc Yg Yj
def two (f g:Nat→Int)(k:Nat):List Value:=(prs f g k).map (Value.int .u64)
theorem two_succ (f g:Nat→Int)(k:Nat):two f g (k+1)=two f g k++ [.int .u64 (f k),.int .u64 (g k)]:=by unfold two;rw[prs_succ];simp
theorem own_in2 {E:TypeId}{w:World}{base c k:Nat}{A:Option Addr}{f g:Nat→Int}(h:OwnE E 2 w base A k c (two f g k))(hf:Wd f k)(hg:Wd g k):In2 w A k f g:=fun i hi=>by
 have hl:(two f g k).length=2*k:=by unfold two;rw[List.length_map,prs_len]
 obtain⟨p1,p2⟩:=prs_at f g k i hi
 obtain⟨b,rfl,_,hlt,c1⟩:=h.cell (i:=i*2) (by omega)
 obtain⟨b2,e2,_,_,c2⟩:=h.cell (i:=i*2+1) (by omega)
 simp at e2
 subst e2
 refine⟨b,0,rfl,hlt,?_,?_,hf i hi,hg i hi⟩
 ·rw[Nat.zero_add,c1];unfold two;rw[List.getElem?_map,p1];rfl
 ·rw[Nat.zero_add,c2];unfold two;rw[List.getElem?_map,p2];rfl
end Yi
namespace Yz
open OwnE
theorem OwnE.farE {E:TypeId}{size:Nat}{w:World}{base:Nat}{A:Option Addr}{n c:Nat}{xs:List Value}(h:OwnE E size w base A n c xs){a:Addr}(ha:a.block<base)(u:Value):OwnE E size (w.setCell a u) base A n c xs:=
 ⟨by simpa using h.1,ownsRow_setCell_below h.2 ha u⟩
theorem wpList_build_as {P:Program}{ops:Array Oper}{rest:List Oper}{o:Oper}{a:Act}{w:World}{Q:Exit→Act→World→Prop}(hg:o.guard=none)(t:TypeId)(parts:Array (Nat×Operand))(ho:o.op= .build t parts)(cells:Array Value)
 (hb:P.built t (parts.map fun(i,x)=>(i,a.eval x)).toList=some cells)(h:wpList P ops Q rest (a.put o.dst (.agg cells)) w):wpList P ops Q (o::rest) a w:=
 wpList_build hg t parts ho (by rw[hb];rfl) (by rw[hb];exact h)
end Yz
namespace Yl
open Bytes8 OwnE Ob Oc Od Oi Kf Yp
theorem ru_z (A:Option Addr)(l:List Int)(n cap i:Nat)(z:Int)(w:World)(hb:Bytes w A l)(hL:l.length=n)(hn:n≤1000000)(hi:i+8≤n)(hz:z=(i:Int)):
 Calls Tryz.prog 114 #[.slice A n cap,.int .u64 z] w fun e w'=>e= .returned (.int .u64 (u8 l i))∧w=w':=by
 subst hz;exact ru_any A l n cap i w hb hL hn hi
def rcode (l:List Int)(a:Nat)(k:Int):Int:=if code l a≠0 then code l a else if kindL l a≠k then 4 else 0
theorem ecode_r (l:List Int)(a:Nat)(k:Int)(ah ea:Nat):ecode l a k ah ea=if rcode l a k≠0 then rcode l a k else if(bodyL l a).length<ah+ea∨(bodyL l a).length%ea≠0 then 5 else 0:=by
 unfold ecode rcode
 by_cases h1:code l a≠0
 ·rw[if_pos h1,if_pos h1,if_pos h1]
 ·rw[if_neg h1,if_neg h1]
  by_cases h2:kindL l a≠k
  ·rw[if_pos h2,if_pos h2,if_pos (by decide)]
  ·rw[if_neg h2,if_neg h2];rfl
def Rbodied (l:List Int)(a:Nat)(k:Int)(w:World)(e:Ending)(w':World):Prop:=
 ∃B m cb,e= .returned (.tuple #[.slice B m cb,.int .i64 (rcode l a k)])∧Below w.heap.size w w'∧(rcode l a k=0→Bytes w' B (bodyL l a)∧(bodyL l a).length=m∧m≤1000000)
theorem rbody_r (A:Option Addr)(l:List Int)(n cap a:Nat)(k:Int)(w:World)(hb:Bytes w A l)(hL:l.length=n)(hn:n≤1000000)(hc:n≤cap)(hcm:cap≤maxLen)(ha:a≤18446744073709551615):
 Calls Tryz.prog 169 #[.slice A n cap,.int .u64 (a:Int),.int .i64 k] w (Rbodied l a k w):=by
 refine(rbody_new A l n cap a k w hb hL hn hc hcm ha).mono fun e w' ⟨B,m,cb,h1,h2,h3⟩=>⟨B,m,cb,h1,h2,fun h=>?_⟩
 unfold rcode at h
 by_cases h4:code l a=0
 ·rw[if_neg (by omega)]at h
  by_cases h5:kindL l a=k
  ·obtain⟨q1,q2,_,_,q5,_⟩:=h3 h4 h5
   exact⟨q1,q2,q5⟩
  ·rw[if_pos h5]at h;omega
 ·rw[if_pos h4]at h;exact absurd h h4
theorem OwnE.farE {E:TypeId}{size:Nat}{w:World}{base:Nat}{A:Option Addr}{n c:Nat}{xs:List Value}(h:OwnE E size w base A n c xs){a:Addr}(ha:a.block<base)(u:Value):OwnE E size (w.setCell a u) base A n c xs:=
 ⟨by simpa using h.1,ownsRow_setCell_below h.2 ha u⟩
end Yl
namespace Ym
open Bytes8 Blk8 Own8 OwnE Dc Ob Od Rows2 Kf Yc Yp Yd Ye Yg Yh Yj Yl
theorem wordElt:Elt 27 30 1 8 (.int .u64 0):=⟨Tryz.underlying30,by kernel_rfl,rfl,by decide⟩
theorem rarrInfo:(Tryz.prog.info? 221).map (·.size)=some 2:=by kernel_rfl
def wds (f:Nat→Int)(k:Nat):List Value:=(ints f k).map (Value.int .u64)
theorem wds_succ (f:Nat→Int)(k:Nat):wds f (k+1)=wds f k++ [.int .u64 (f k)]:=by unfold wds;rw[ints_succ];simp
theorem own_ints {E:TypeId}{w:World}{base c k:Nat}{A:Option Addr}{f:Nat→Int}(h:OwnE E 1 w base A k c (wds f k))(hf:Wd f k):InInts .u64 w A k f:=fun i hi=>by
 have hl:(wds f k).length=k:=by unfold wds;rw[List.length_map,ints_len]
 obtain⟨b,rfl,_,hlt,c1⟩:=h.cell (i:=i) (by omega)
 refine⟨b,0,rfl,hlt,?_,?_⟩
 ·rw[Nat.zero_add,c1];unfold wds ints;simp[hi]
 ·have:=hf i hi
  simp[Lit.wf,IntKind.min,IntKind.max,IntKind.signed,IntKind.bits]
  omega
theorem rreadArray_n (A:Option Addr)(l:List Int)(n cap a:Nat)(w:World)(hb:Bytes w A l)(hL:l.length=n)(hn:n≤1000000)(hc:n≤cap)(hcm:cap≤maxLen)(ha:a≤18446744073709551615):
 Calls Tryz.prog 168 #[.slice A n cap,.int .u64 (a:Int)] w (ArrTold2 l a w):=by
 have b0:=yH ((Below.refl w.heap.size w).alloc (yR _) (arrC 221 0 none 0 0))
 have R0:=yH (show Blk (w.alloc (arrC 221 0 none 0 0)) w.heap.size (aL 0 none 0 0) 221 from Blk.new w _ _)
 have HBo:=yH (rbody_r A l n cap a 6 (w.alloc (arrC 221 0 none 0 0)) (hb.below b0.out (yR _)) hL hn hc hcm ha)
 unfold Rbodied at HBo
 have HAb:=yH (body_all (a:=a) hb.1)
 have hno:ecode l a 6 8 8≠0→arX l a=0∧arM l a=0:=fun h=>⟨if_neg h,if_neg h⟩
 have hyes:ecode l a 6 8 8=0→arX l a=u8 (bodyL l a) 0∧arM l a=arN (bodyL l a):=fun h=>⟨if_pos h,if_pos h⟩
 have hr:=ecode_r l a 6 8 8
 by_cases h1:rcode l a 6≠0
 ·rw[if_pos h1]at hr
  have HCe:=yH hr
  have HF:=yH (hno (by rw[hr];exact h1))
  clear hno hyes hb hL hr
  generalize rcode l a 6=cdd at*
  go_enter Tryz.func168,Tryz.ntmps168
  go_wp2_with(first
   |(go_at_call 169;(with_reducible refine HBo.out.mono ?_);rintro e w2 ⟨B,m,cb,rfl,hbel,_⟩;have R2:=yH (R0.out.below hbel R0.out.lt);have HB2:=yH (b0.out.trans (hbel.mono b0.out.size));clear hbel)
   |(refine wpList_store_row rfl 221 (.tmp 4) (.tmp 18) rfl w.heap.size _ rfl rfl 221 _ R2.out rarrInfo rfl (by simp[Value.oneCell']) ?_))
  refine bodyPost_ret (v:= .tuple #[arrV 0 none 0 0,.int .i64 cdd]) (by exact res_row Tryz.results168 _ _ w.heap.size 221 _ (0,0) _ _ rfl rfl (Blk.setRow R2.out (aL 0 none 0 0)) Tryz.underlying221 rfl rarrInfo) rfl ?_
  unfold ArrTold2
  rw[HF.out.1,HF.out.2,HCe.out]
  exact⟨none,0,rfl,setRow_keepB HB2.out (yR _) _,fun i hi=>absurd hi (by omega),fun b off e=>by cases e⟩
 have h0:rcode l a 6=0:=by omega
 rw[if_neg h1]at hr
 rw[h0]at HBo
 have HNu:=yH fun(i:Nat) (z:Int) (B:Option Addr) (m cb:Nat) (W:World) (hB:Bytes W B (bodyL l a)) (hm:(bodyL l a).length=m) (hm2:m≤1000000) (hz:z=(i:Int)) (hi:i+8≤m)=>ru_z B (bodyL l a) m cb i z W hB hm hm2 hi hz
 have HCd:=yH hr
 have HNo:=yH hno
 have HYe:=yH hyes
 have HTn:=yH (show arN (bodyL l a)=((bodyL l a).length-8)/8 from rfl)
 clear hno hyes hb hL h1 h0 hr
 generalize hbd0:bodyL l a=bd at*
 have HBD:=yH hbd0
 clear hbd0
 go_enter Tryz.func168,Tryz.ntmps168
 go_upto_region 4 with(go_at_call 169;(with_reducible refine HBo.out.mono ?_);rintro e w2 ⟨B,m,cb,rfl,hbel,hbd⟩)
 obtain⟨d1,d2,d5⟩:=hbd (by first|rfl|trivial)
 have R2:=yH (R0.out.below hbel R0.out.lt)
 have HB2:=yH (b0.out.trans (hbel.mono b0.out.size))
 have D1:=yH d1
 have D2:=yH d2
 clear d1 d2 hbel hbd
 have hsz:=D2.out
 by_cases hbad:m<16∨m%8≠0
 ·have HCe:=yH (HCd.out.trans (if_pos (by rw[D2.out];omega)))
  have HF:=yH (HNo.out (by rw[HCe.out];decide))
  by_cases hb1:m<16
  ·have e1:(m:Int)<16:=by omega
   clear hsz hbad
   go_wp2_with(refine wpList_store_row rfl 221 (.tmp 4) (.tmp 29) rfl w.heap.size _ rfl rfl 221 _ R2.out rarrInfo rfl (by simp[Value.oneCell']) ?_)
   refine bodyPost_ret (v:= .tuple #[arrV 0 none 0 0,.int .i64 5]) (by exact res_row Tryz.results168 _ _ w.heap.size 221 _ (0,0) _ _ rfl rfl (Blk.setRow R2.out (aL 0 none 0 0)) Tryz.underlying221 rfl rarrInfo) rfl ?_
   unfold ArrTold2
   rw[HF.out.1,HF.out.2,HCe.out]
   exact⟨none,0,rfl,setRow_keepB HB2.out (yR _) _,fun i hi=>absurd hi (by omega),fun b off e=>by cases e⟩
  ·have e1: ¬(m:Int)<16:=by omega
   obtain⟨R,hR⟩: ∃R:Int,R=((m%8:Nat):Int):=⟨_,rfl⟩
   have e2:(m:Int).tmod 8=R:=by rw[Int.tmod_eq_emod_of_nonneg (by omega),hR];omega
   have e2':(m:Int)%8=R:=by rw[hR];omega
   have e3:(R==0)=false:=by simp;omega
   have e4:(R !=0)=true:=by simp;omega
   have e5: ¬R=0:=by omega
   clear hsz hbad hR
   go_wp2_with(refine wpList_store_row rfl 221 (.tmp 4) (.tmp 29) rfl w.heap.size _ rfl rfl 221 _ R2.out rarrInfo rfl (by simp[Value.oneCell']) ?_)
   refine bodyPost_ret (v:= .tuple #[arrV 0 none 0 0,.int .i64 5]) (by exact res_row Tryz.results168 _ _ w.heap.size 221 _ (0,0) _ _ rfl rfl (Blk.setRow R2.out (aL 0 none 0 0)) Tryz.underlying221 rfl rarrInfo) rfl ?_
   unfold ArrTold2
   rw[HF.out.1,HF.out.2,HCe.out]
   exact⟨none,0,rfl,setRow_keepB HB2.out (yR _) _,fun i hi=>absurd hi (by omega),fun b off e=>by cases e⟩
 ·have HCe:=yH (HCd.out.trans (if_neg (by rw[D2.out];omega)))
  have HF:=yH (HYe.out HCe.out)
  obtain⟨t,ht⟩: ∃t,m=8+8*t:=⟨(m-8)/8,by omega⟩
  subst ht
  have htn:arN bd=t:=by rw[HTn.out,D2.out];omega
  have HTN:=yH htn
  have e1: ¬((8+8*t:Nat):Int)<16:=by omega
  have e2:((8+8*t:Nat):Int).tmod 8=0:=by rw[Int.tmod_eq_emod_of_nonneg (by omega)];omega
  have e2':((8+8*t:Nat):Int)%8=0:=by omega
  have X0:=yH (Blk.new w2 (aL (u8 bd 0) none 0 0) 221)
  have BX:=yH ((Below.refl w2.heap.size w2).alloc (yR _) (.cells (aL (u8 bd 0) none 0 0).toArray 221))
  clear hsz hbad htn
  go_wp2_with(go_at_call 114;(with_reducible refine(HNu.out 0 0 _ _ _ _ D1.out D2.out (by omega) rfl (by omega)).mono ?_);rintro e w' ⟨rfl,rfl⟩)
  go_loopw [9] (fun i wr=> ∃(k:Nat) (A':Option Addr) (c':Nat),k≤t∧i= .int .i64 ((8+8*k:Nat):Int)∧Hid (Blk wr w2.heap.size (aL (u8 bd 0) A' k c') 221)∧Hid (OwnE 27 1 wr (w2.heap.size+1) A' k c' (wds (arF bd) k))∧Hid (Below w2.heap.size w2 wr)) (fun i _=>8+8*t-(intOf i).toNat)
  case atStart=>exact⟨0,none,0,Nat.zero_le _,rfl,X0,OwnE.nil _ _ (by simp),BX⟩
  case round=>
   obtain⟨k,A',c',hk,rfl,he,ho,hb⟩:=hrel
   have e0:=he.out.cell (i:=0) rfl
   have e1c:=he.out.cell (i:=1) rfl
   by_cases hlt:k<t
   ·have Dr:=yH (D1.out.below hb.out (yR _)).drew
    have HWs:=yH (wds_succ (arF bd) k)
    have HAf:=yH (show arF bd k=u8 bd (8+8*k)from rfl)
    have hbo:=yH (show Blk (wr.alloc (.cells #[.int .u64 (u8 bd (8+8*k))] 27)).drew wr.heap.size [.int .u64 (u8 bd (8+8*k))] 27 from Blk.new wr _ _)
    have hgw:=he.out.lt
    have Na:=yH ((Below.refl wr.heap.size wr).alloc (yR _) (.cells #[.int .u64 (u8 bd (8+8*k))] 27)).drew
    have u1:wr.drew.cell? ⟨w2.heap.size,1,none⟩=some (.slice A' k c'):=e1c
    have v1:=(Na.out.cell (p:=⟨w2.heap.size,1,none⟩) hgw).trans e1c
    have hlt':((8+8*k:Nat):Int)<((8+8*t:Nat):Int):=by omega
    have hwu:IntKind.u64.wrap (8+8*(k:Int))=8+8*(k:Int):=by rw[IntKind.wrap_u64];omega
    go_wp2_with fail
    go_region_law (first
     |(refine step_append_elt wordElt (o:=⟨some 46,_,_,_,_,_⟩) rfl (.tmp 40) (.tmp 45) rfl (w2.heap.size+1) A' k c' _ rfl ((ho.out.alloc (.cells #[.int .u64 (u8 bd (8+8*k))] 27)).drew) ⟨wr.heap.size,0,none⟩ 1 1 [.int .u64 (u8 bd (8+8*k))] rfl rfl (Blk.news hbo.out) (by intro u hu;simp at hu;subst hu;rfl) (by omega) (by omega) ?_;intro A2 c2 w4 ho4 hb4;rw[←HAf.out,←HWs.out]at ho4;have HO4:=yH ho4;have hb5:=((Below.refl wr.heap.size wr).alloc (yR _) (.cells #[.int .u64 (u8 bd (8+8*k))] 27)).drew;have hb6:=Below.trans (hb5.mono (by omega:w2.heap.size+1≤wr.heap.size)) hb4;have HB4:=yH (hb.out.trans (hb6.mono (Nat.le_succ _)));have E4:=yH (he.out.below hb6 (Nat.lt_succ_self _));have x1:=E4.out.cell (i:=1) rfl;have y1:=E4.out.frozen 1;clear ho4 hb4 hb5 hb6)
     |(go_simp;go_at_call 114;(with_reducible refine(HNu.out (8+8*k) _ _ _ _ _ Dr.out D2.out (by omega) (by omega) (by omega)).mono ?_);rintro e w' ⟨rfl,rfl⟩))
    all_goals
     go_wp2
     go_roundw
     case rel=>exact⟨k+1,A2,c2,by omega,by go_num,yH (E4.out.set_ 1 _),yH (OwnE.farE HO4.out (by simp) _),yH (HB4.out.setCell (yR _) _)⟩
     case measure=>simp[intOf];omega
   ·obtain rfl:k=t:=by omega
    have HI:=yH (own_ints ho.out (fun i _=>u8_bd HAb.out _))
    have R3:=yH (R2.out.below hb.out R2.out.lt)
    have W3:=yH (HB2.out.trans (hb.out.mono HB2.out.size))
    have HNe:=yH (fun b off (e:A'=some ⟨b,off,none⟩)=>show b≠w.heap.size by
     have h1:=Dc.OwnE.ltB ho.out b (by rw[e];rfl)
     have h2:=R2.out.lt
     omega)
    have HNw:=yH (fun b off (e:A'=some ⟨b,off,none⟩)=>show w.heap.size≤b by
     have h1:=Dc.OwnE.ltB ho.out b (by rw[e];rfl)
     have h2:=R2.out.lt
     omega)
    go_wp2_with(first
     |(refine wpList_load_row rfl 221 (.tmp 8) rfl w2.heap.size rfl 221 (aL (u8 bd 0) A' k c').toArray (0,0) _ he.out Tryz.underlying221 rfl rarrInfo ?_)
     |(refine wpList_store_row rfl 221 (.tmp 4) (.tmp 48) rfl w.heap.size (aL (u8 bd 0) A' k c').toArray rfl rfl 221 _ R3.out rarrInfo rfl (by simp[Value.oneCell']) ?_))
    refine bodyPost_ret (v:= .tuple #[arrV (u8 bd 0) A' k c',.int .i64 0]) (by exact res_row Tryz.results168 _ _ w.heap.size 221 _ (0,0) _ _ rfl rfl (Blk.setRow R3.out (aL (u8 bd 0) A' k c')) Tryz.underlying221 rfl rarrInfo) rfl ?_
    unfold ArrTold2
    rw[HCe.out,HF.out.1,HF.out.2,HTN.out,HBD.out]
    exact⟨_,c',rfl,setRow_keepB W3.out (yR _) _,InInts.setRow HI.out (fun b off e=>HNe.out b off e) _,HNw.out⟩
end Ym
end Go.Proofs.YtiddkgcafpaekaaGreat
