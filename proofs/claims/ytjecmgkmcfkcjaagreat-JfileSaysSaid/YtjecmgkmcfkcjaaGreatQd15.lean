/-
  Texts beneath the proof.
-/
import Derived.Test.YtjecmgkmcfkcjaaGreatQd14
set_option linter.unusedVariables false
set_option linter.unusedSimpArgs false
set_option maxRecDepth 100000
set_option maxHeartbeats 8000000
open Go.ChangeShapes Go.WideShapes Go.ChangeAt Go.RowKit
namespace Go.Proofs.YtjecmgkmcfkcjaaGreat
namespace Yi
open Bytes8 Blk8 OwnE Dc Yc Yg Yj
def two (f g:Nat→Int)(k:Nat):List Value:=(prs f g k).map (Value.int .u64)
theorem two_succ (f g:Nat→Int)(k:Nat):two f g (k+1)=two f g k++ [.int .u64 (f k),.int .u64 (g k)]:=by unfold two;rw[prs_succ];simp
theorem own_in2 {E:TypeId}{w:World}{base c k:Nat}{A:Option Addr}{f g:Nat→Int}(h:OwnE E 2 w base A k c (two f g k))(hf:Wd f k)(hg:Wd g k):In2 w A k f g:=fun i hi=>by
 have hl:(two f g k).length=2*k:=by unfold two;rw[List.length_map,prs_len]
 obtain⟨p1,p2⟩:=prs_at f g k i hi
 obtain⟨b,rfl,_,hlt,c1⟩:=h.cell (i:=i*2) (by omega)
 obtain⟨b2,e2,_,_,c2⟩:=h.cell (i:=i*2+1) (by omega)
 simp at e2
 subst e2
 refine⟨b,0,rfl,hlt,?_,?_,hf i hi,hg i hi⟩
 ·rw[Nat.zero_add,c1];unfold two;rw[List.getElem?_map,p1];rfl
 ·rw[Nat.zero_add,c2];unfold two;rw[List.getElem?_map,p2];rfl
end Yi
namespace Yz
open OwnE
theorem OwnE.farE {E:TypeId}{size:Nat}{w:World}{base:Nat}{A:Option Addr}{n c:Nat}{xs:List Value}(h:OwnE E size w base A n c xs){a:Addr}(ha:a.block<base)(u:Value):OwnE E size (w.setCell a u) base A n c xs:=
 ⟨by simpa using h.1,ownsRow_setCell_below h.2 ha u⟩
theorem wpList_build_as {P:Program}{ops:Array Oper}{rest:List Oper}{o:Oper}{a:Act}{w:World}{Q:Exit→Act→World→Prop}(hg:o.guard=none)(t:TypeId)(parts:Array (Nat×Operand))(ho:o.op= .build t parts)(cells:Array Value)
 (hb:P.built t (parts.map fun(i,x)=>(i,a.eval x)).toList=some cells)(h:wpList P ops Q rest (a.put o.dst (.agg cells)) w):wpList P ops Q (o::rest) a w:=
 wpList_build hg t parts ho (by rw[hb];rfl) (by rw[hb];exact h)
end Yz
namespace Yl
open Bytes8 OwnE Ob Oc Od Oi Kf Yp
theorem ru_z (A:Option Addr)(l:List Int)(n cap i:Nat)(z:Int)(w:World)(hb:Bytes w A l)(hL:l.length=n)(hn:n≤1000000)(hi:i+8≤n)(hz:z=(i:Int)):
 Calls Tryz.prog 180 #[.slice A n cap,.int .u64 z] w fun e w'=>e= .returned (.int .u64 (u8 l i))∧w=w':=by
 subst hz;exact ru_any A l n cap i w hb hL hn hi
def rcode (l:List Int)(a:Nat)(k:Int):Int:=if code l a≠0 then code l a else if kindL l a≠k then 4 else 0
theorem ecode_r (l:List Int)(a:Nat)(k:Int)(ah ea:Nat):ecode l a k ah ea=if rcode l a k≠0 then rcode l a k else if(bodyL l a).length<ah+ea∨(bodyL l a).length%ea≠0 then 5 else 0:=by
 unfold ecode rcode
 by_cases h1:code l a≠0
 ·rw[if_pos h1,if_pos h1,if_pos h1]
 ·rw[if_neg h1,if_neg h1]
  by_cases h2:kindL l a≠k
  ·rw[if_pos h2,if_pos h2,if_pos (by decide)]
  ·rw[if_neg h2,if_neg h2];rfl
def Rbodied (l:List Int)(a:Nat)(k:Int)(w:World)(e:Ending)(w':World):Prop:=
 ∃B m cb,e= .returned (.tuple #[.slice B m cb,.int .i64 (rcode l a k)])∧Below w.heap.size w w'∧(rcode l a k=0→Bytes w' B (bodyL l a)∧(bodyL l a).length=m∧m≤1000000)
theorem rbody_r (A:Option Addr)(l:List Int)(n cap a:Nat)(k:Int)(w:World)(hb:Bytes w A l)(hL:l.length=n)(hn:n≤1000000)(hc:n≤cap)(hcm:cap≤maxLen)(ha:a≤18446744073709551615):
 Calls Tryz.prog 186 #[.slice A n cap,.int .u64 (a:Int),.int .i64 k] w (Rbodied l a k w):=by
 refine(rbody_new A l n cap a k w hb hL hn hc hcm ha).mono fun e w' ⟨B,m,cb,h1,h2,h3⟩=>⟨B,m,cb,h1,h2,fun h=>?_⟩
 unfold rcode at h
 by_cases h4:code l a=0
 ·rw[if_neg (by omega)]at h
  by_cases h5:kindL l a=k
  ·obtain⟨q1,q2,_,_,q5,_⟩:=h3 h4 h5
   exact⟨q1,q2,q5⟩
  ·rw[if_pos h5]at h;omega
 ·rw[if_pos h4]at h;exact absurd h h4
theorem OwnE.farE {E:TypeId}{size:Nat}{w:World}{base:Nat}{A:Option Addr}{n c:Nat}{xs:List Value}(h:OwnE E size w base A n c xs){a:Addr}(ha:a.block<base)(u:Value):OwnE E size (w.setCell a u) base A n c xs:=
 ⟨by simpa using h.1,ownsRow_setCell_below h.2 ha u⟩
end Yl
namespace Ym
open Bytes8 Blk8 Own8 OwnE Dc Ob Od Rows2 Kf Yc Yp Yd Ye Yg Yh Yj Yl
theorem wordElt:Elt 40 33 1 8 (.int .u64 0):=⟨Tryz.underlying33,by kernel_rfl,rfl,by decide⟩
theorem rarrInfo:(Tryz.prog.info? 238).map (·.size)=some 2:=by kernel_rfl
def wds (f:Nat→Int)(k:Nat):List Value:=(ints f k).map (Value.int .u64)
theorem wds_succ (f:Nat→Int)(k:Nat):wds f (k+1)=wds f k++ [.int .u64 (f k)]:=by unfold wds;rw[ints_succ];simp
theorem own_ints {E:TypeId}{w:World}{base c k:Nat}{A:Option Addr}{f:Nat→Int}(h:OwnE E 1 w base A k c (wds f k))(hf:Wd f k):InInts .u64 w A k f:=fun i hi=>by
 have hl:(wds f k).length=k:=by unfold wds;rw[List.length_map,ints_len]
 obtain⟨b,rfl,_,hlt,c1⟩:=h.cell (i:=i) (by omega)
 refine⟨b,0,rfl,hlt,?_,?_⟩
 ·rw[Nat.zero_add,c1];unfold wds ints;simp[hi]
 ·have:=hf i hi
  simp[Lit.wf,IntKind.min,IntKind.max,IntKind.signed,IntKind.bits]
  omega
theorem rreadArray_n (A:Option Addr)(l:List Int)(n cap a:Nat)(w:World)(hb:Bytes w A l)(hL:l.length=n)(hn:n≤1000000)(hc:n≤cap)(hcm:cap≤maxLen)(ha:a≤18446744073709551615):
 Calls Tryz.prog 190 #[.slice A n cap,.int .u64 (a:Int)] w (ArrTold2 l a w):=by
 have b0:=Lib.hid ((Below.refl w.heap.size w).alloc (Nat.le_refl _) (arrC 238 0 none 0 0))
 have R0:=Lib.hid (show Blk (w.alloc (arrC 238 0 none 0 0)) w.heap.size (aL 0 none 0 0) 238 from Blk.new w _ _)
 have HBo:=Lib.hid (rbody_r A l n cap a 6 (w.alloc (arrC 238 0 none 0 0)) (hb.below b0.out (Nat.le_refl _)) hL hn hc hcm ha)
 unfold Rbodied at HBo
 have HAb:=Lib.hid (body_all (a:=a) hb.1)
 have hno:ecode l a 6 8 8≠0→arX l a=0∧arM l a=0:=fun h=>⟨if_neg h,if_neg h⟩
 have hyes:ecode l a 6 8 8=0→arX l a=u8 (bodyL l a) 0∧arM l a=arN (bodyL l a):=fun h=>⟨if_pos h,if_pos h⟩
 have hr:=ecode_r l a 6 8 8
 by_cases h1:rcode l a 6≠0
 ·rw[if_pos h1]at hr
  have HCe:=Lib.hid hr
  have HF:=Lib.hid (hno (by rw[hr];exact h1))
  clear hno hyes hb hL hr
  generalize rcode l a 6=cdd at*
  go_enter Tryz.func190,Tryz.ntmps190
  go_wp2_with(first
   |(go_at_call 186;(with_reducible refine HBo.out.mono ?_);rintro e w2 ⟨B,m,cb,rfl,hbel,_⟩;have R2:=Lib.hid (R0.out.below hbel R0.out.lt);have HB2:=Lib.hid (b0.out.trans (hbel.mono b0.out.size));clear hbel)
   |(refine wpList_store_row rfl 238 (.tmp 4) (.tmp 18) rfl w.heap.size _ rfl rfl 238 _ R2.out rarrInfo rfl (by simp[Value.oneCell']) ?_))
  refine bodyPost_ret (v:= .tuple #[arrV 0 none 0 0,.int .i64 cdd]) (by exact res_row Tryz.results190 _ _ w.heap.size 238 _ (0,0) _ _ rfl rfl (Blk.setRow R2.out (aL 0 none 0 0)) Tryz.underlying238 rfl rarrInfo) rfl ?_
  unfold ArrTold2
  rw[HF.out.1,HF.out.2,HCe.out]
  exact⟨none,0,rfl,setRow_keepB HB2.out (Nat.le_refl _) _,fun i hi=>absurd hi (by omega),fun b off e=>by cases e⟩
 have h0:rcode l a 6=0:=by omega
 rw[if_neg h1]at hr
 rw[h0]at HBo
 have HNu:=Lib.hid fun(i:Nat) (z:Int) (B:Option Addr) (m cb:Nat) (W:World) (hB:Bytes W B (bodyL l a)) (hm:(bodyL l a).length=m) (hm2:m≤1000000) (hz:z=(i:Int)) (hi:i+8≤m)=>ru_z B (bodyL l a) m cb i z W hB hm hm2 hi hz
 have HCd:=Lib.hid hr
 have HNo:=Lib.hid hno
 have HYe:=Lib.hid hyes
 have HTn:=Lib.hid (show arN (bodyL l a)=((bodyL l a).length-8)/8 from rfl)
 clear hno hyes hb hL h1 h0 hr
 generalize hbd0:bodyL l a=bd at*
 have HBD:=Lib.hid hbd0
 clear hbd0
 go_enter Tryz.func190,Tryz.ntmps190
 go_upto_region 4 with(go_at_call 186;(with_reducible refine HBo.out.mono ?_);rintro e w2 ⟨B,m,cb,rfl,hbel,hbd⟩)
 obtain⟨d1,d2,d5⟩:=hbd (by first|rfl|trivial)
 have R2:=Lib.hid (R0.out.below hbel R0.out.lt)
 have HB2:=Lib.hid (b0.out.trans (hbel.mono b0.out.size))
 have D1:=Lib.hid d1
 have D2:=Lib.hid d2
 clear d1 d2 hbel hbd
 have hsz:=D2.out
 by_cases hbad:m<16∨m%8≠0
 ·have HCe:=Lib.hid (HCd.out.trans (if_pos (by rw[D2.out];omega)))
  have HF:=Lib.hid (HNo.out (by rw[HCe.out];decide))
  by_cases hb1:m<16
  ·have e1:(m:Int)<16:=by omega
   clear hsz hbad
   go_wp2_with(refine wpList_store_row rfl 238 (.tmp 4) (.tmp 29) rfl w.heap.size _ rfl rfl 238 _ R2.out rarrInfo rfl (by simp[Value.oneCell']) ?_)
   refine bodyPost_ret (v:= .tuple #[arrV 0 none 0 0,.int .i64 5]) (by exact res_row Tryz.results190 _ _ w.heap.size 238 _ (0,0) _ _ rfl rfl (Blk.setRow R2.out (aL 0 none 0 0)) Tryz.underlying238 rfl rarrInfo) rfl ?_
   unfold ArrTold2
   rw[HF.out.1,HF.out.2,HCe.out]
   exact⟨none,0,rfl,setRow_keepB HB2.out (Nat.le_refl _) _,fun i hi=>absurd hi (by omega),fun b off e=>by cases e⟩
  ·have e1: ¬(m:Int)<16:=by omega
   obtain⟨R,hR⟩: ∃R:Int,R=((m%8:Nat):Int):=⟨_,rfl⟩
   have e2:(m:Int).tmod 8=R:=by rw[Int.tmod_eq_emod_of_nonneg (by omega),hR];omega
   have e2':(m:Int)%8=R:=by rw[hR];omega
   have e3:(R==0)=false:=by simp;omega
   have e4:(R !=0)=true:=by simp;omega
   have e5: ¬R=0:=by omega
   clear hsz hbad hR
   go_wp2_with(refine wpList_store_row rfl 238 (.tmp 4) (.tmp 29) rfl w.heap.size _ rfl rfl 238 _ R2.out rarrInfo rfl (by simp[Value.oneCell']) ?_)
   refine bodyPost_ret (v:= .tuple #[arrV 0 none 0 0,.int .i64 5]) (by exact res_row Tryz.results190 _ _ w.heap.size 238 _ (0,0) _ _ rfl rfl (Blk.setRow R2.out (aL 0 none 0 0)) Tryz.underlying238 rfl rarrInfo) rfl ?_
   unfold ArrTold2
   rw[HF.out.1,HF.out.2,HCe.out]
   exact⟨none,0,rfl,setRow_keepB HB2.out (Nat.le_refl _) _,fun i hi=>absurd hi (by omega),fun b off e=>by cases e⟩
 ·have HCe:=Lib.hid (HCd.out.trans (if_neg (by rw[D2.out];omega)))
  have HF:=Lib.hid (HYe.out HCe.out)
  obtain⟨t,ht⟩: ∃t,m=8+8*t:=⟨(m-8)/8,by omega⟩
  subst ht
  have htn:arN bd=t:=by rw[HTn.out,D2.out];omega
  have HTN:=Lib.hid htn
  have e1: ¬((8+8*t:Nat):Int)<16:=by omega
  have e2:((8+8*t:Nat):Int).tmod 8=0:=by rw[Int.tmod_eq_emod_of_nonneg (by omega)];omega
  have e2':((8+8*t:Nat):Int)%8=0:=by omega
  have X0:=Lib.hid (Blk.new w2 (aL (u8 bd 0) none 0 0) 238)
  have BX:=Lib.hid ((Below.refl w2.heap.size w2).alloc (Nat.le_refl _) (.cells (aL (u8 bd 0) none 0 0).toArray 238))
  clear hsz hbad htn
  go_wp2_with(go_at_call 180;(with_reducible refine(HNu.out 0 0 _ _ _ _ D1.out D2.out (by omega) rfl (by omega)).mono ?_);rintro e w' ⟨rfl,rfl⟩)
  go_loopw [9] (fun i wr=> ∃(k:Nat) (A':Option Addr) (c':Nat),k≤t∧i= .int .i64 ((8+8*k:Nat):Int)∧Hid (Blk wr w2.heap.size (aL (u8 bd 0) A' k c') 238)∧Hid (OwnE 40 1 wr (w2.heap.size+1) A' k c' (wds (arF bd) k))∧Hid (Below w2.heap.size w2 wr)) (fun i _=>8+8*t-(intOf i).toNat)
  case atStart=>exact⟨0,none,0,Nat.zero_le _,rfl,X0,OwnE.nil _ _ (by simp),BX⟩
  case round=>
   obtain⟨k,A',c',hk,rfl,he,ho,hb⟩:=hrel
   have e0:=he.out.cell (i:=0) rfl
   have e1c:=he.out.cell (i:=1) rfl
   by_cases hlt:k<t
   ·have Dr:=Lib.hid (D1.out.below hb.out (Nat.le_refl _)).drew
    have HWs:=Lib.hid (wds_succ (arF bd) k)
    have HAf:=Lib.hid (show arF bd k=u8 bd (8+8*k)from rfl)
    have hbo:=Lib.hid (show Blk (wr.alloc (.cells #[.int .u64 (u8 bd (8+8*k))] 40)).drew wr.heap.size [.int .u64 (u8 bd (8+8*k))] 40 from Blk.new wr _ _)
    have hgw:=he.out.lt
    have Na:=Lib.hid ((Below.refl wr.heap.size wr).alloc (Nat.le_refl _) (.cells #[.int .u64 (u8 bd (8+8*k))] 40)).drew
    have u1:wr.drew.cell? ⟨w2.heap.size,1,none⟩=some (.slice A' k c'):=e1c
    have v1:=(Na.out.cell (p:=⟨w2.heap.size,1,none⟩) hgw).trans e1c
    have hlt':((8+8*k:Nat):Int)<((8+8*t:Nat):Int):=by omega
    have hwu:IntKind.u64.wrap (8+8*(k:Int))=8+8*(k:Int):=by rw[IntKind.wrap_u64];omega
    go_wp2_with fail
    go_region_law (first
     |(refine step_append_elt wordElt (o:=⟨some 46,_,_,_,_,_⟩) rfl (.tmp 40) (.tmp 45) rfl (w2.heap.size+1) A' k c' _ rfl ((ho.out.alloc (.cells #[.int .u64 (u8 bd (8+8*k))] 40)).drew) ⟨wr.heap.size,0,none⟩ 1 1 [.int .u64 (u8 bd (8+8*k))] rfl rfl (Blk.news hbo.out) (by intro u hu;simp at hu;subst hu;rfl) (by omega) (by omega) ?_;intro A2 c2 w4 ho4 hb4;rw[←HAf.out,←HWs.out]at ho4;have HO4:=Lib.hid ho4;have hb5:=((Below.refl wr.heap.size wr).alloc (Nat.le_refl _) (.cells #[.int .u64 (u8 bd (8+8*k))] 40)).drew;have hb6:=Below.trans (hb5.mono (by omega:w2.heap.size+1≤wr.heap.size)) hb4;have HB4:=Lib.hid (hb.out.trans (hb6.mono (Nat.le_succ _)));have E4:=Lib.hid (he.out.below hb6 (Nat.lt_succ_self _));have x1:=E4.out.cell (i:=1) rfl;have y1:=E4.out.frozen 1;clear ho4 hb4 hb5 hb6)
     |(go_simp;go_at_call 180;(with_reducible refine(HNu.out (8+8*k) _ _ _ _ _ Dr.out D2.out (by omega) (by omega) (by omega)).mono ?_);rintro e w' ⟨rfl,rfl⟩))
    all_goals
     go_wp2
     go_roundw
     case rel=>exact⟨k+1,A2,c2,by omega,by go_num,Lib.hid (E4.out.set_ 1 _),Lib.hid (OwnE.farE HO4.out (by simp) _),Lib.hid (HB4.out.setCell (Nat.le_refl _) _)⟩
     case measure=>simp[intOf];omega
   ·obtain rfl:k=t:=by omega
    have HI:=Lib.hid (own_ints ho.out (fun i _=>u8_bd HAb.out _))
    have R3:=Lib.hid (R2.out.below hb.out R2.out.lt)
    have W3:=Lib.hid (HB2.out.trans (hb.out.mono HB2.out.size))
    have HNe:=Lib.hid (fun b off (e:A'=some ⟨b,off,none⟩)=>show b≠w.heap.size by
     have h1:=Dc.OwnE.ltB ho.out b (by rw[e];rfl)
     have h2:=R2.out.lt
     omega)
    have HNw:=Lib.hid (fun b off (e:A'=some ⟨b,off,none⟩)=>show w.heap.size≤b by
     have h1:=Dc.OwnE.ltB ho.out b (by rw[e];rfl)
     have h2:=R2.out.lt
     omega)
    go_wp2_with(first
     |(refine wpList_load_row rfl 238 (.tmp 8) rfl w2.heap.size rfl 238 (aL (u8 bd 0) A' k c').toArray (0,0) _ he.out Tryz.underlying238 rfl rarrInfo ?_)
     |(refine wpList_store_row rfl 238 (.tmp 4) (.tmp 48) rfl w.heap.size (aL (u8 bd 0) A' k c').toArray rfl rfl 238 _ R3.out rarrInfo rfl (by simp[Value.oneCell']) ?_))
    refine bodyPost_ret (v:= .tuple #[arrV (u8 bd 0) A' k c',.int .i64 0]) (by exact res_row Tryz.results190 _ _ w.heap.size 238 _ (0,0) _ _ rfl rfl (Blk.setRow R3.out (aL (u8 bd 0) A' k c')) Tryz.underlying238 rfl rarrInfo) rfl ?_
    unfold ArrTold2
    rw[HCe.out,HF.out.1,HF.out.2,HTN.out,HBD.out]
    exact⟨_,c',rfl,setRow_keepB W3.out (Nat.le_refl _) _,InInts.setRow HI.out (fun b off e=>HNe.out b off e) _,HNw.out⟩
end Ym
namespace Yn
open Bytes8 Blk8 Own8 OwnE Dc Ob Rows2 Kf Yc Yp Yd Ye Yg Yh Yi Yl
theorem rentInfo:(Tryz.prog.info? 205).map (·.size)=some 21:=by kernel_rfl
theorem ritemElt:Elt 201 194 2 16 (.agg #[.int .u64 0,.int .u64 0]):=⟨Tryz.underlying194,by kernel_rfl,rfl,by decide⟩
theorem wpList_build_as {P:Program}{ops:Array Oper}{rest:List Oper}{o:Oper}{a:Act}{w:World}{Q:Exit→Act→World→Prop}(hg:o.guard=none)(t:TypeId)(parts:Array (Nat×Operand))(ho:o.op= .build t parts)(cells:Array Value)
 (hb:P.built t (parts.map fun(i,x)=>(i,a.eval x)).toList=some cells)(h:wpList P ops Q rest (a.put o.dst (.agg cells)) w):wpList P ops Q (o::rest) a w:=
 wpList_build hg t parts ho (by rw[hb];rfl) (by rw[hb];exact h)
def Kp (bd:List Int)(j:Nat)(i:Nat):Int:=if i<j then itK bd i else 0
theorem kp_set (bd:List Int)(j:Nat)(hj:j<16)(s r m x:Int)(A:Option Addr)(n c:Nat):(entL s r m (Kp bd j) x A n c).set (3+j) (.int .u8 (itK bd j))=entL s r m (Kp bd (j+1)) x A n c:=by
 rcases j with _|_|_|_|_|_|_|_|_|_|_|_|_|_|_|_|j
 all_goals first|rfl|omega
theorem kp_all (bd:List Int)(s r m x:Int)(A:Option Addr)(n c:Nat):entL s r m (Kp bd 16) x A n c=entL s r m (itK bd) x A n c:=rfl
theorem ent_cell {w:World}{g:Nat}{T:TypeId}{s r m x:Int}{K:Nat→Int}{A:Option Addr}{n c:Nat}(h:Blk w g (entL s r m K x A n c) T)(j:Nat)(hj:j<16): ∃u,w.cell? ⟨g,3+j,none⟩=some u:=by
 have hl:(entL s r m K x A n c).length=21:=rfl
 exact⟨(entL s r m K x A n c)[3+j],h.cell (List.getElem?_eq_getElem (by omega))⟩
theorem rreadEntry_n (A:Option Addr)(l:List Int)(n cap a:Nat)(w:World)(hb:Bytes w A l)(hL:l.length=n)(hn:n≤1000000)(hc:n≤cap)(hcm:cap≤maxLen)(ha:a≤18446744073709551615):
 Calls Tryz.prog 196 #[.slice A n cap,.int .u64 (a:Int)] w (EntTold2 l a w):=by
 have b0:=Lib.hid ((Below.refl w.heap.size w).alloc (Nat.le_refl _) (zC 205))
 have R0:=Lib.hid (show Blk (w.alloc (zC 205)) w.heap.size zL 205 from Blk.new w zL _)
 have HBo:=Lib.hid (rbody_r A l n cap a 3 (w.alloc (zC 205)) (hb.below b0.out (Nat.le_refl _)) hL hn hc hcm ha)
 unfold Rbodied at HBo
 have HAb:=Lib.hid (body_all (a:=a) hb.1)
 have hcd:entC0 l a=if ecode l a 3 48 16≠0 then ecode l a 3 48 16 else if u8 (bodyL l a) 0=0 then 13 else if risB (itA (bodyL l a)) (itN (bodyL l a))then 0 else 11:=rfl
 have hr:=ecode_r l a 3 48 16
 have HNo:=Lib.hid (told_no (l:=l) (a:=a))
 by_cases h1:rcode l a 3≠0
 ·rw[if_pos h1]at hr
  rw[hr,if_pos h1]at hcd
  have HCe:=Lib.hid hcd
  have HF:=Lib.hid (HNo.out (by rw[hcd];exact h1))
  clear hcd hb hL hr
  generalize rcode l a 3=cdd at*
  go_enter Tryz.func196,Tryz.ntmps196
  go_wp2_with(first
   |(go_at_call 186;(with_reducible refine HBo.out.mono ?_);rintro e w2 ⟨B,m,cb,rfl,hbel,_⟩;have R2:=Lib.hid (R0.out.below hbel R0.out.lt);have HB2:=Lib.hid (b0.out.trans (hbel.mono b0.out.size));clear hbel)
   |(refine wpList_store_row rfl 205 (.tmp 4) (.tmp 20) rfl w.heap.size _ rfl rfl 205 _ R2.out rentInfo rfl z_one ?_))
  refine bodyPost_ret (v:= .tuple #[entV 0 0 0 (fun _=>0) 0 none 0 0,.int .i64 cdd]) (by exact res_row Tryz.results196 _ _ w.heap.size 205 _ (0,0) _ _ rfl rfl (Blk.setRow R2.out zL) Tryz.underlying205 rfl rentInfo) rfl ?_
  unfold EntTold2
  rw[HF.out.1,HF.out.1,HF.out.1,HF.out.1,HF.out.2.1,HF.out.2.2,HCe.out]
  exact⟨none,0,rfl,setRow_keepB HB2.out (Nat.le_refl _) _,in2_none _ _ _ _,fun b off e=>by cases e⟩
 have h0:rcode l a 3=0:=by omega
 rw[if_neg h1]at hr
 rw[h0]at HBo
 have HTY:entC0 l a=0→eNum l a 0=u8 (bodyL l a) 0∧eNum l a 8=u8 (bodyL l a) 8∧eNum l a 16=u8 (bodyL l a) 16∧eNum l a 40=u8 (bodyL l a) 40∧eK l a=itK (bodyL l a)∧eN l a=itN (bodyL l a):=fun h=>by
  obtain⟨t1,t2,t3⟩:=told_yes h
  exact⟨t1 0,t1 8,t1 16,t1 40,t2,t3⟩
 have HYe:=Lib.hid HTY
 have HNu:=Lib.hid fun(i:Nat) (z:Int) (B:Option Addr) (m cb:Nat) (W:World) (hB:Bytes W B (bodyL l a)) (hm:(bodyL l a).length=m) (hm2:m≤1000000) (hz:z=(i:Int)) (hi:i+8≤m)=>ru_z B (bodyL l a) m cb i z W hB hm hm2 hi hz
 have HCd:=Lib.hid hcd
 have HEr:=Lib.hid hr
 have HTn:=Lib.hid (show itN (bodyL l a)=((bodyL l a).length-48)/16 from rfl)
 clear hcd hb hL h1 h0 hr HTY
 generalize hbd0:bodyL l a=bd at*
 have HBD:=Lib.hid hbd0
 clear hbd0
 go_enter Tryz.func196,Tryz.ntmps196
 go_upto_region 4 with(go_at_call 186;(with_reducible refine HBo.out.mono ?_);rintro e w2 ⟨B,m,cb,rfl,hbel,hbd⟩)
 obtain⟨d1,d2,d5⟩:=hbd (by first|rfl|trivial)
 have R2:=Lib.hid (R0.out.below hbel R0.out.lt)
 have HB2:=Lib.hid (b0.out.trans (hbel.mono b0.out.size))
 have D1:=Lib.hid d1
 have D2:=Lib.hid d2
 clear d1 d2 hbel hbd
 have hsz:=D2.out
 by_cases hbad:m<64∨m%16≠0
 ·have he5:=HEr.out.trans (if_pos (by rw[D2.out];omega))
  have HCe:=Lib.hid (show entC0 l a=5 by rw[HCd.out,he5];rfl)
  have HF:=Lib.hid (HNo.out (by rw[HCe.out];decide))
  clear he5
  by_cases hb1:m<64
  ·have e1:(m:Int)<64:=by omega
   clear hsz hbad
   go_wp2_with(refine wpList_store_row rfl 205 (.tmp 4) (.tmp 31) rfl w.heap.size _ rfl rfl 205 _ R2.out rentInfo rfl z_one ?_)
   refine bodyPost_ret (v:= .tuple #[entV 0 0 0 (fun _=>0) 0 none 0 0,.int .i64 5]) (by exact res_row Tryz.results196 _ _ w.heap.size 205 _ (0,0) _ _ rfl rfl (Blk.setRow R2.out zL) Tryz.underlying205 rfl rentInfo) rfl ?_
   unfold EntTold2
   rw[HF.out.1,HF.out.1,HF.out.1,HF.out.1,HF.out.2.1,HF.out.2.2,HCe.out]
   exact⟨none,0,rfl,setRow_keepB HB2.out (Nat.le_refl _) _,in2_none _ _ _ _,fun b off e=>by cases e⟩
  ·have e1: ¬(m:Int)<64:=by omega
   obtain⟨R,hR⟩: ∃R:Int,R=((m%16:Nat):Int):=⟨_,rfl⟩
   have e2:(m:Int).tmod 16=R:=by rw[Int.tmod_eq_emod_of_nonneg (by omega),hR];omega
   have e2':(m:Int)%16=R:=by rw[hR];omega
   have e3:(R==0)=false:=by simp;omega
   have e4:(R !=0)=true:=by simp;omega
   have e5: ¬R=0:=by omega
   clear hsz hbad hR
   go_wp2_with(refine wpList_store_row rfl 205 (.tmp 4) (.tmp 31) rfl w.heap.size _ rfl rfl 205 _ R2.out rentInfo rfl z_one ?_)
   refine bodyPost_ret (v:= .tuple #[entV 0 0 0 (fun _=>0) 0 none 0 0,.int .i64 5]) (by exact res_row Tryz.results196 _ _ w.heap.size 205 _ (0,0) _ _ rfl rfl (Blk.setRow R2.out zL) Tryz.underlying205 rfl rentInfo) rfl ?_
   unfold EntTold2
   rw[HF.out.1,HF.out.1,HF.out.1,HF.out.1,HF.out.2.1,HF.out.2.2,HCe.out]
   exact⟨none,0,rfl,setRow_keepB HB2.out (Nat.le_refl _) _,in2_none _ _ _ _,fun b off e=>by cases e⟩
 have he0:=HEr.out.trans (if_neg (by rw[D2.out];omega))
 have hcd2:=HCd.out
 rw[he0,if_neg (by decide)]at hcd2
 have HCx:=Lib.hid hcd2
 obtain⟨t,ht⟩: ∃t,m=48+16*t:=⟨(m-48)/16,by omega⟩
 subst ht
 have htn:itN bd=t:=by rw[HTn.out,D2.out];omega
 have HTN:=Lib.hid htn
 have ht1:1≤t:=by omega
 have e1: ¬((48+16*t:Nat):Int)<64:=by omega
 have e2:((48+16*t:Nat):Int).tmod 16=0:=by rw[Int.tmod_eq_emod_of_nonneg (by omega)];omega
 have e2':((48+16*t:Nat):Int)%16=0:=by omega
 have HLw:=Lib.hid R2.out.lt
 clear hsz hbad htn he0 hcd2
 go_upto_region 7 with(first
  |(go_at_call 180;(first|(with_reducible refine(HNu.out 0 0 _ _ _ _ D1.out D2.out (by omega) rfl (by omega)).mono ?_)|(with_reducible refine(HNu.out 8 8 _ _ _ _ D1.out D2.out (by omega) rfl (by omega)).mono ?_)|(with_reducible refine(HNu.out 16 16 _ _ _ _ D1.out D2.out (by omega) rfl (by omega)).mono ?_)|(with_reducible refine(HNu.out 40 40 _ _ _ _ D1.out D2.out (by omega) rfl (by omega)).mono ?_));rintro e w' ⟨rfl,rfl⟩)
  |(refine wpList_build_as rfl 205 _ rfl #[.int .u64 (u8 bd 0),.int .u64 (u8 bd 8),.int .u64 (u8 bd 16),.int .u8 0,.int .u8 0,.int .u8 0,.int .u8 0,.int .u8 0,.int .u8 0,.int .u8 0,.int .u8 0,.int .u8 0,.int .u8 0,.int .u8 0,.int .u8 0,.int .u8 0,.int .u8 0,.int .u8 0,.int .u8 0,.int .u64 (u8 bd 40),.slice none 0 0] (by kernel_rfl) ?_)
  |(refine wpList_store_row rfl 205 (.tmp 8) (.tmp 40) rfl w2.heap.size #[.int .u64 (u8 bd 0),.int .u64 (u8 bd 8),.int .u64 (u8 bd 16),.int .u8 0,.int .u8 0,.int .u8 0,.int .u8 0,.int .u8 0,.int .u8 0,.int .u8 0,.int .u8 0,.int .u8 0,.int .u8 0,.int .u8 0,.int .u8 0,.int .u8 0,.int .u8 0,.int .u8 0,.int .u8 0,.int .u64 (u8 bd 40),.slice none 0 0] rfl rfl 205 zL.toArray (Blk.new w2 zL 205) rentInfo rfl (by simp[Value.oneCell']) ?_))
 have X0:=Lib.hid (show Blk ((w2.alloc (zC 205)).setRow w2.heap.size #[.int .u64 (u8 bd 0),.int .u64 (u8 bd 8),.int .u64 (u8 bd 16),.int .u8 0,.int .u8 0,.int .u8 0,.int .u8 0,.int .u8 0,.int .u8 0,.int .u8 0,.int .u8 0,.int .u8 0,.int .u8 0,.int .u8 0,.int .u8 0,.int .u8 0,.int .u8 0,.int .u8 0,.int .u8 0,.int .u64 (u8 bd 40),.slice none 0 0]) w2.heap.size (entL (u8 bd 0) (u8 bd 8) (u8 bd 16) (Kp bd 0) (u8 bd 40) none 0 0) 205 from Blk.setRow (show Blk (w2.alloc (zC 205)) w2.heap.size zL 205 from Blk.new w2 zL _) (entL (u8 bd 0) (u8 bd 8) (u8 bd 16) (fun _=>0) (u8 bd 40) none 0 0))
 have BX:=Lib.hid (show Below w2.heap.size w2 ((w2.alloc (zC 205)).setRow w2.heap.size #[.int .u64 (u8 bd 0),.int .u64 (u8 bd 8),.int .u64 (u8 bd 16),.int .u8 0,.int .u8 0,.int .u8 0,.int .u8 0,.int .u8 0,.int .u8 0,.int .u8 0,.int .u8 0,.int .u8 0,.int .u8 0,.int .u8 0,.int .u8 0,.int .u8 0,.int .u8 0,.int .u8 0,.int .u8 0,.int .u64 (u8 bd 40),.slice none 0 0])from setRow_keepB ((Below.refl w2.heap.size w2).alloc (Nat.le_refl _) _) (Nat.le_refl _) _)
 generalize (w2.alloc (zC 205)).setRow w2.heap.size #[.int .u64 (u8 bd 0),.int .u64 (u8 bd 8),.int .u64 (u8 bd 16),.int .u8 0,.int .u8 0,.int .u8 0,.int .u8 0,.int .u8 0,.int .u8 0,.int .u8 0,.int .u8 0,.int .u8 0,.int .u8 0,.int .u8 0,.int .u8 0,.int .u8 0,.int .u8 0,.int .u8 0,.int .u8 0,.int .u64 (u8 bd 40),.slice none 0 0]=w3 at*
 have RX:=Lib.hid (R2.out.below BX.out HLw.out)
 have WX:=Lib.hid (HB2.out.trans (BX.out.mono HB2.out.size))
 have x0:=X0.out.cell (i:=0) rfl
 obtain⟨s0,hs0⟩: ∃s0,s0=u8 bd 0:=⟨_,rfl⟩
 by_cases hz:u8 bd 0=0
 ·have HCe:=Lib.hid (HCx.out.trans (if_pos hz))
  have HF:=Lib.hid (HNo.out (by rw[HCe.out];decide))
  rw[hz]at x0
  clear hs0
  go_wp2_with(refine wpList_store_row rfl 205 (.tmp 4) (.tmp 44) rfl w.heap.size _ rfl rfl 205 _ RX.out rentInfo rfl z_one ?_)
  refine bodyPost_ret (v:= .tuple #[entV 0 0 0 (fun _=>0) 0 none 0 0,.int .i64 13]) (by exact res_row Tryz.results196 _ _ w.heap.size 205 _ (0,0) _ _ rfl rfl (Blk.setRow RX.out zL) Tryz.underlying205 rfl rentInfo) rfl ?_
  unfold EntTold2
  rw[HF.out.1,HF.out.1,HF.out.1,HF.out.1,HF.out.2.1,HF.out.2.2,HCe.out]
  exact⟨none,0,rfl,setRow_keepB WX.out (Nat.le_refl _) _,in2_none _ _ _ _,fun b off e=>by cases e⟩
 have hcx2:=HCx.out.trans (if_neg hz)
 rw[HTN.out]at hcx2
 have HC2:=Lib.hid hcx2
 have hz2:(u8 bd 0==0)=false:=by simpa using hz
 obtain⟨b,off,rfl,hbl,hcell⟩:=D1.out.spot (by rw[D2.out];omega)
 have HCl:=Lib.hid hcell
 clear hcx2 hcell hs0
 go_wp2_with fail
 go_loopw [9] (fun i wr=> ∃j:Nat,j≤16∧i= .int .i64 (j:Int)∧Hid (Blk wr w2.heap.size (entL (u8 bd 0) (u8 bd 8) (u8 bd 16) (Kp bd j) (u8 bd 40) none 0 0) 205)∧Hid (Below w2.heap.size w2 wr)) (fun i _=>16-(intOf i).toNat)
 case atStart=>exact⟨0,by omega,rfl,X0,BX⟩
 case round=>
  obtain⟨j,hj,rfl,hx,hbx⟩:=hrel
  by_cases hlt:j<16
  ·have hcb:=(hbx.out.cell (p:=⟨b,off+(24+j),none⟩) hbl).trans (HCl.out (24+j) (by rw[D2.out];omega))
   obtain⟨u,hu⟩:=ent_cell hx.out j hlt
   have hfz:=hx.out.frozen (3+j)
   have hit:bd.getD (24+j) 0=itK bd j:=(if_pos hlt).symm
   rw[hit]at hcb
   have HSt:=Lib.hid (show Blk (wr.setCell ⟨w2.heap.size,3+j,none⟩ (.int .u8 (itK bd j))) w2.heap.size (entL (u8 bd 0) (u8 bd 8) (u8 bd 16) (Kp bd (j+1)) (u8 bd 40) none 0 0) 205 from kp_set bd j hlt (u8 bd 0) (u8 bd 8) (u8 bd 16) (u8 bd 40) none 0 0▸hx.out.set_ (3+j) (.int .u8 (itK bd j)))
   have hj0:(0:Int)≤(j:Int):=by omega
   have hj16:(j:Int)<16:=by omega
   generalize itK bd j=kv at*
   clear hit
   go_wp2
   go_roundw
   case rel=>exact⟨j+1,by omega,by go_num,HSt,Lib.hid (hbx.out.setCell (Nat.le_refl _) _)⟩
   case measure=>simp[intOf];omega
  ·have hj16:j=16:=by omega
   have hj2: ¬(j:Int)<16:=by omega
   have hx2:=hx.out
   rw[hj16,kp_all]at hx2
   clear hj16
   have HX2:=Lib.hid hx2
   have HBx:=Lib.hid hbx.out
   clear hx hx2 hbx X0 BX RX WX x0
   rename World=>wA
   go_wp2_with fail
   go_loopw [10] (fun i wr=> ∃(q:Nat) (A':Option Addr) (c':Nat),q≤t∧i= .int .i64 ((48+16*q:Nat):Int)∧Hid (Blk wr w2.heap.size (entL (u8 bd 0) (u8 bd 8) (u8 bd 16) (itK bd) (u8 bd 40) A' q c') 205)∧Hid (OwnE 201 2 wr (w2.heap.size+1) A' q c' (two (itA bd) (itH bd) q))∧Hid (risB (itA bd) q=true)∧Hid (Below w2.heap.size w2 wr)) (fun i _=>48+16*t-(intOf i).toNat)
   case atStart=>exact⟨0,none,0,Nat.zero_le _,rfl,HX2,OwnE.nil _ _ (Nat.succ_le_of_lt HX2.out.lt),Lib.hid rfl,HBx⟩
   case round=>
    obtain⟨q,A',c',hq,rfl,he,ho,hri,hb⟩:=hrel
    have e20:=he.out.cell (i:=20) rfl
    have RX:=Lib.hid (R2.out.below hb.out HLw.out)
    have WX:=Lib.hid (HB2.out.trans (hb.out.mono HB2.out.size))
    by_cases hlt:q<t
    ·have Dr:=Lib.hid (D1.out.below hb.out (Nat.le_refl _)).drew
     have HWs:=Lib.hid (two_succ (itA bd) (itH bd) q)
     have HAf:=Lib.hid (show itA bd q=u8 bd (48+16*q)from rfl)
     have HHf:=Lib.hid (show itH bd q=u8 bd (48+16*q+8)from rfl)
     have hbo:=Lib.hid (show Blk (wr.alloc (.cells #[.int .u64 (u8 bd (48+16*q)),.int .u64 (u8 bd (48+16*q+8))] 201)).drew wr.heap.size [.int .u64 (u8 bd (48+16*q)),.int .u64 (u8 bd (48+16*q+8))] 201 from Blk.new wr _ _)
     have hgw:=he.out.lt
     have Na:=Lib.hid ((Below.refl wr.heap.size wr).alloc (Nat.le_refl _) (.cells #[.int .u64 (u8 bd (48+16*q)),.int .u64 (u8 bd (48+16*q+8))] 201)).drew
     have u1:wr.drew.cell? ⟨w2.heap.size,20,none⟩=some (.slice A' q c'):=e20
     have v1:=(Na.out.cell (p:=⟨w2.heap.size,20,none⟩) hgw).trans e20
     have hlt':((48+16*q:Nat):Int)<((48+16*t:Nat):Int):=by omega
     have hwu:IntKind.u64.wrap (48+16*(q:Int))=48+16*(q:Int):=by rw[IntKind.wrap_u64];omega
     have hwi:IntKind.i64.wrap (48+16*(q:Int)+8)=48+16*(q:Int)+8:=by rw[IntKind.wrap_i64];omega
     have hwu2:IntKind.u64.wrap (48+16*(q:Int)+8)=48+16*(q:Int)+8:=by rw[IntKind.wrap_u64];omega
     go_wp2_with fail
     have HRi:=hri
     go_cut [10]from 66 to 79 (fun z wx=> ∃(A2:Option Addr) (c2:Nat),z= .int .i64 ((48+16*q:Nat):Int)∧Hid (Blk wx w2.heap.size (entL (u8 bd 0) (u8 bd 8) (u8 bd 16) (itK bd) (u8 bd 40) A2 (q+1) c2) 205)∧Hid (OwnE 201 2 wx (w2.heap.size+1) A2 (q+1) c2 (two (itA bd) (itH bd) (q+1)))∧Hid (Below w2.heap.size w2 wx))
     case first=>
      go_region_law (first
       |(refine step_append_elt ritemElt (o:=⟨some 79,_,_,_,_,_⟩) rfl (.tmp 67) (.tmp 78) rfl (w2.heap.size+1) A' q c' _ rfl ((ho.out.alloc (.cells #[.int .u64 (u8 bd (48+16*q)),.int .u64 (u8 bd (48+16*q+8))] 201)).drew) ⟨wr.heap.size,0,none⟩ 1 1 [.int .u64 (u8 bd (48+16*q)),.int .u64 (u8 bd (48+16*q+8))] rfl rfl (Blk.news hbo.out) (by intro u hu;simp at hu;rcases hu with rfl|rfl<;>rfl) (by omega) (by omega) ?_;intro A2 c2 w4 ho4 hb4;rw[←HAf.out,←HHf.out,←HWs.out]at ho4;have HO4:=Lib.hid ho4;have hb5:=((Below.refl wr.heap.size wr).alloc (Nat.le_refl _) (.cells #[.int .u64 (u8 bd (48+16*q)),.int .u64 (u8 bd (48+16*q+8))] 201)).drew;have hb6:=Below.trans (hb5.mono (by omega:w2.heap.size+1≤wr.heap.size)) hb4;have HB4:=Lib.hid (hb.out.trans (hb6.mono (Nat.le_succ _)));have E4:=Lib.hid (he.out.below hb6 (Nat.lt_succ_self _));have x1:=E4.out.cell (i:=20) rfl;have y1:=E4.out.frozen 20;clear ho4 hb4 hb5 hb6)
       |(go_simp;go_at_call 180;(first|(with_reducible refine(HNu.out (48+16*q) _ _ _ _ _ Dr.out D2.out (by omega) (by omega) (by omega)).mono ?_)|(with_reducible refine(HNu.out (48+16*q+8) _ _ _ _ _ Dr.out D2.out (by omega) (by omega) (by omega)).mono ?_));rintro e w' ⟨rfl,rfl⟩))
      all_goals
       go_wp2_with fail
       go_meet
       case rel=>exact⟨A2,c2,rfl,Lib.hid (E4.out.set_ 20 _),Lib.hid (OwnE.farE HO4.out (by simp) _),Lib.hid (HB4.out.setCell (Nat.le_refl _) _)⟩
     case rest=>
      rename World=>W5
      obtain⟨A2,c2,rfl,E5,O5,B5⟩:=hcut
      clear u1 v1 hwu hwi hwu2 Na hbo Dr
      have R5:=Lib.hid (R2.out.below B5.out.drew HLw.out)
      have W5b:=Lib.hid (HB2.out.trans (B5.out.drew.mono HB2.out.size))
      have f20:W5.drew.cell? ⟨w2.heap.size,20,none⟩=some (.slice A2 (q+1) c2):=E5.out.cell (i:=20) rfl
      rcases Nat.eq_zero_or_pos q with hq0|hq0
      ·subst hq0
       go_wp2_with fail
       go_region
       all_goals
        go_wp2
        go_roundw
        case rel=>exact⟨1,A2,c2,by omega,by go_num,Lib.hid E5.out.drew,Lib.hid O5.out.drew,Lib.hid rfl,Lib.hid B5.out.drew⟩
        case measure=>simp[intOf];omega
      ·obtain⟨p,rfl⟩: ∃p,q=p+1:=⟨q-1,by omega⟩
       have hI:=own_in2 O5.out.drew (fun i _=>u8_bd HAb.out _) (fun i _=>u8_bd HAb.out _)
       obtain⟨g5,o5,ea,hg5,k1,_⟩:=hI (p+1) (by omega)
       obtain⟨g6,o6,eb,_,k2,_⟩:=hI p (by omega)
       rw[ea]at eb
       simp at eb
       obtain⟨rfl,rfl⟩:=eb
       subst ea
       have hs:=risB_succ (itA bd) (p+1) (by omega)
       rw[hri.out,Bool.true_and]at hs
       have hg:decide ((0:Int)<((p+1:Nat):Int))=true:=decide_eq_true (by omega)
       have hg2:(0:Int)<((p+1:Nat):Int):=by omega
       have hw:IntKind.i64.wrap (((p+1:Nat):Int)-1)=(p:Int):=by rw[IntKind.wrap_i64];omega
       have hw1:((p+1:Nat):Int)-1=(p:Int):=by omega
       have hp0:(0:Int)≤(p:Int):=by omega
       have hp1:(p:Int)<((p+1+1:Nat):Int):=by omega
       have hp2:((p+1:Nat):Int)<((p+1+1:Nat):Int):=by omega
       by_cases hle:itA bd (p+1)≤itA bd p
       ·have hf:risB (itA bd) t=false:=by
         cases hq:risB (itA bd) t with
         |false=>rfl
         |true=>
          have h3:=risB_mono (m:=p+2) hq (by omega)
          rw[hs]at h3
          have h4:itA bd p<itA bd (p+1):=by simpa using h3
          omega
        have HCe:=Lib.hid (HC2.out.trans (if_neg (by rw[hf];decide)))
        have HF:=Lib.hid (HNo.out (by rw[HCe.out];decide))
        clear hs hf hI
        go_wp2_with fail
        go_region
        all_goals
         go_wp2_with(refine wpList_store_row rfl 205 (.tmp 4) (.tmp 99) rfl w.heap.size _ rfl rfl 205 _ R5.out rentInfo rfl z_one ?_)
         refine bodyPost_ret (v:= .tuple #[entV 0 0 0 (fun _=>0) 0 none 0 0,.int .i64 11]) (by exact res_row Tryz.results196 _ _ w.heap.size 205 _ (0,0) _ _ rfl rfl (Blk.setRow R5.out zL) Tryz.underlying205 rfl rentInfo) rfl ?_
         unfold EntTold2
         rw[HF.out.1,HF.out.1,HF.out.1,HF.out.1,HF.out.2.1,HF.out.2.2,HCe.out]
         exact⟨none,0,rfl,setRow_keepB W5b.out (Nat.le_refl _) _,in2_none _ _ _ _,fun b off e=>by cases e⟩
       ·have HS2:=Lib.hid (show risB (itA bd) (p+2)=true by rw[hs];exact decide_eq_true (show itA bd (p+1-1)<itA bd (p+1)by rw[Nat.add_sub_cancel];omega))
        clear hs hI
        go_wp2_with fail
        go_region
        all_goals
         go_wp2
         go_roundw
         case rel=>exact⟨p+2,some ⟨g5,o5,none⟩,c2,by omega,by go_num,Lib.hid E5.out.drew,Lib.hid O5.out.drew,HS2,Lib.hid B5.out.drew⟩
         case measure=>simp[intOf];omega
    ·obtain rfl:q=t:=by omega
     have HCe:=Lib.hid (HC2.out.trans (if_pos hri.out))
     have HF:=Lib.hid (HYe.out HCe.out)
     have HI:=Lib.hid (own_in2 ho.out (fun i _=>u8_bd HAb.out _) (fun i _=>u8_bd HAb.out _))
     have HNe:=Lib.hid (fun b off (e:A'=some ⟨b,off,none⟩)=>show b≠w.heap.size by
      have h1:=Dc.OwnE.ltB ho.out b (by rw[e];rfl)
      have h2:=HLw.out
      omega)
     have HNw:=Lib.hid (fun b off (e:A'=some ⟨b,off,none⟩)=>show w.heap.size≤b by
      have h1:=Dc.OwnE.ltB ho.out b (by rw[e];rfl)
      have h2:=HLw.out
      omega)
     go_wp2_with(first
      |(refine wpList_load_row rfl 205 (.tmp 8) rfl w2.heap.size rfl 205 (entL (u8 bd 0) (u8 bd 8) (u8 bd 16) (itK bd) (u8 bd 40) A' q c').toArray (0,0) _ he.out Tryz.underlying205 rfl rentInfo ?_)
      |(refine wpList_store_row rfl 205 (.tmp 4) (.tmp 100) rfl w.heap.size (entL (u8 bd 0) (u8 bd 8) (u8 bd 16) (itK bd) (u8 bd 40) A' q c').toArray rfl rfl 205 _ RX.out rentInfo rfl (ent_one _ _ _ _ _ _ _ _) ?_))
     refine bodyPost_ret (v:= .tuple #[entV (u8 bd 0) (u8 bd 8) (u8 bd 16) (itK bd) (u8 bd 40) A' q c',.int .i64 0]) (by exact res_row Tryz.results196 _ _ w.heap.size 205 _ (0,0) _ _ rfl rfl (Blk.setRow RX.out (entL (u8 bd 0) (u8 bd 8) (u8 bd 16) (itK bd) (u8 bd 40) A' q c')) Tryz.underlying205 rfl rentInfo) rfl ?_
     unfold EntTold2
     obtain⟨t0,t8,t16,t40,tK,tN⟩:=HF.out
     rw[t0,t8,t16,t40,tK,tN,HCe.out,HTN.out,HBD.out]
     exact⟨A',c',rfl,setRow_keepB WX.out (Nat.le_refl _) _,In2.setRow HI.out (fun b off e=>HNe.out b off e) _,HNw.out⟩
end Yn
end Go.Proofs.YtjecmgkmcfkcjaaGreat
