/-
  Texts beneath the proof.
-/
import Derived.Sort.Grow
import Derived.Test.YtiddkgcafpaekaaGreatQs14
set_option linter.unusedVariables false
set_option linter.unusedSimpArgs false
set_option maxRecDepth 100000
set_option maxHeartbeats 8000000
open Go.ChangeShapes Go.WideShapes Go.ChangeAt Go.RowKit
namespace Go.Proofs.YtiddkgcafpaekaaGreat
namespace Yn
open Bytes8 Blk8 Own8 OwnE Dc Ob Rows2 Kf Yc Yp Yd Ye Yg Yh Yi Yl
theorem rentInfo:(Tryz.prog.info? 203).map (·.size)=some 21:=by kernel_rfl
theorem ritemElt:Elt 199 193 2 16 (.agg #[.int .u64 0,.int .u64 0]):=⟨Tryz.underlying193,by kernel_rfl,rfl,by decide⟩
theorem wpList_build_as {P:Program}{ops:Array Oper}{rest:List Oper}{o:Oper}{a:Act}{w:World}{Q:Exit→Act→World→Prop}(hg:o.guard=none)(t:TypeId)(parts:Array (Nat×Operand))(ho:o.op= .build t parts)(cells:Array Value)
 (hb:P.built t (parts.map fun(i,x)=>(i,a.eval x)).toList=some cells)(h:wpList P ops Q rest (a.put o.dst (.agg cells)) w):wpList P ops Q (o::rest) a w:=
 wpList_build hg t parts ho (by rw[hb];rfl) (by rw[hb];exact h)
def Kp (bd:List Int)(j:Nat)(i:Nat):Int:=if i<j then itK bd i else 0
theorem kp_set (bd:List Int)(j:Nat)(hj:j<16)(s r m x:Int)(A:Option Addr)(n c:Nat):(entL s r m (Kp bd j) x A n c).set (3+j) (.int .u8 (itK bd j))=entL s r m (Kp bd (j+1)) x A n c:=by
 rcases j with _|_|_|_|_|_|_|_|_|_|_|_|_|_|_|_|j
 all_goals first|rfl|omega
theorem kp_all (bd:List Int)(s r m x:Int)(A:Option Addr)(n c:Nat):entL s r m (Kp bd 16) x A n c=entL s r m (itK bd) x A n c:=rfl
theorem ent_cell {w:World}{g:Nat}{T:TypeId}{s r m x:Int}{K:Nat→Int}{A:Option Addr}{n c:Nat}(h:Blk w g (entL s r m K x A n c) T)(j:Nat)(hj:j<16): ∃u,w.cell? ⟨g,3+j,none⟩=some u:=by
 have hl:(entL s r m K x A n c).length=21:=rfl
 exact⟨(entL s r m K x A n c)[3+j],h.cell (List.getElem?_eq_getElem (by omega))⟩
theorem rreadEntry_n (A:Option Addr)(l:List Int)(n cap a:Nat)(w:World)(hb:Bytes w A l)(hL:l.length=n)(hn:n≤1000000)(hc:n≤cap)(hcm:cap≤maxLen)(ha:a≤18446744073709551615):
 Calls Tryz.prog 167 #[.slice A n cap,.int .u64 (a:Int)] w (EntTold2 l a w):=by
 have b0:=yH ((Below.refl w.heap.size w).alloc (yR _) (zC 203))
 have R0:=yH (show Blk (w.alloc (zC 203)) w.heap.size zL 203 from Blk.new w zL _)
 have HBo:=yH (rbody_r A l n cap a 3 (w.alloc (zC 203)) (hb.below b0.out (yR _)) hL hn hc hcm ha)
 unfold Rbodied at HBo
 have HAb:=yH (body_all (a:=a) hb.1)
 have hcd:entC0 l a=if ecode l a 3 48 16≠0 then ecode l a 3 48 16 else if u8 (bodyL l a) 0=0 then 13 else if risB (itA (bodyL l a)) (itN (bodyL l a))then 0 else 11:=rfl
 have hr:=ecode_r l a 3 48 16
 have HNo:=yH (told_no (l:=l) (a:=a))
 by_cases h1:rcode l a 3≠0
 ·rw[if_pos h1]at hr
  rw[hr,if_pos h1]at hcd
  have HCe:=yH hcd
  have HF:=yH (HNo.out (by rw[hcd];exact h1))
  clear hcd hb hL hr
  generalize rcode l a 3=cdd at*
  go_enter Tryz.func167,Tryz.ntmps167
  go_wp2_with(first
   |(go_at_call 169;(with_reducible refine HBo.out.mono ?_);rintro e w2 ⟨B,m,cb,rfl,hbel,_⟩;have R2:=yH (R0.out.below hbel R0.out.lt);have HB2:=yH (b0.out.trans (hbel.mono b0.out.size));clear hbel)
   |(refine wpList_store_row rfl 203 (.tmp 4) (.tmp 20) rfl w.heap.size _ rfl rfl 203 _ R2.out rentInfo rfl z_one ?_))
  refine bodyPost_ret (v:= .tuple #[entV 0 0 0 (fun _=>0) 0 none 0 0,.int .i64 cdd]) (by exact res_row Tryz.results167 _ _ w.heap.size 203 _ (0,0) _ _ rfl rfl (Blk.setRow R2.out zL) Tryz.underlying203 rfl rentInfo) rfl ?_
  unfold EntTold2
  rw[HF.out.1,HF.out.1,HF.out.1,HF.out.1,HF.out.2.1,HF.out.2.2,HCe.out]
  exact⟨none,0,rfl,setRow_keepB HB2.out (yR _) _,in2_none _ _ _ _,fun b off e=>by cases e⟩
 have h0:rcode l a 3=0:=by omega
 rw[if_neg h1]at hr
 rw[h0]at HBo
 have HTY:entC0 l a=0→eNum l a 0=u8 (bodyL l a) 0∧eNum l a 8=u8 (bodyL l a) 8∧eNum l a 16=u8 (bodyL l a) 16∧eNum l a 40=u8 (bodyL l a) 40∧eK l a=itK (bodyL l a)∧eN l a=itN (bodyL l a):=fun h=>by
  obtain⟨t1,t2,t3⟩:=told_yes h
  exact⟨t1 0,t1 8,t1 16,t1 40,t2,t3⟩
 have HYe:=yH HTY
 have HNu:=yH fun(i:Nat) (z:Int) (B:Option Addr) (m cb:Nat) (W:World) (hB:Bytes W B (bodyL l a)) (hm:(bodyL l a).length=m) (hm2:m≤1000000) (hz:z=(i:Int)) (hi:i+8≤m)=>ru_z B (bodyL l a) m cb i z W hB hm hm2 hi hz
 have HCd:=yH hcd
 have HEr:=yH hr
 have HTn:=yH (show itN (bodyL l a)=((bodyL l a).length-48)/16 from rfl)
 clear hcd hb hL h1 h0 hr HTY
 generalize hbd0:bodyL l a=bd at*
 have HBD:=yH hbd0
 clear hbd0
 go_enter Tryz.func167,Tryz.ntmps167
 go_upto_region 4 with(go_at_call 169;(with_reducible refine HBo.out.mono ?_);rintro e w2 ⟨B,m,cb,rfl,hbel,hbd⟩)
 obtain⟨d1,d2,d5⟩:=hbd (by first|rfl|trivial)
 have R2:=yH (R0.out.below hbel R0.out.lt)
 have HB2:=yH (b0.out.trans (hbel.mono b0.out.size))
 have D1:=yH d1
 have D2:=yH d2
 clear d1 d2 hbel hbd
 have hsz:=D2.out
 by_cases hbad:m<64∨m%16≠0
 ·have he5:=HEr.out.trans (if_pos (by rw[D2.out];omega))
  have HCe:=yH (show entC0 l a=5 by rw[HCd.out,he5];rfl)
  have HF:=yH (HNo.out (by rw[HCe.out];decide))
  clear he5
  by_cases hb1:m<64
  ·have e1:(m:Int)<64:=by omega
   clear hsz hbad
   go_wp2_with(refine wpList_store_row rfl 203 (.tmp 4) (.tmp 31) rfl w.heap.size _ rfl rfl 203 _ R2.out rentInfo rfl z_one ?_)
   refine bodyPost_ret (v:= .tuple #[entV 0 0 0 (fun _=>0) 0 none 0 0,.int .i64 5]) (by exact res_row Tryz.results167 _ _ w.heap.size 203 _ (0,0) _ _ rfl rfl (Blk.setRow R2.out zL) Tryz.underlying203 rfl rentInfo) rfl ?_
   unfold EntTold2
   rw[HF.out.1,HF.out.1,HF.out.1,HF.out.1,HF.out.2.1,HF.out.2.2,HCe.out]
   exact⟨none,0,rfl,setRow_keepB HB2.out (yR _) _,in2_none _ _ _ _,fun b off e=>by cases e⟩
  ·have e1: ¬(m:Int)<64:=by omega
   obtain⟨R,hR⟩: ∃R:Int,R=((m%16:Nat):Int):=⟨_,rfl⟩
   have e2:(m:Int).tmod 16=R:=by rw[Int.tmod_eq_emod_of_nonneg (by omega),hR];omega
   have e2':(m:Int)%16=R:=by rw[hR];omega
   have e3:(R==0)=false:=by simp;omega
   have e4:(R !=0)=true:=by simp;omega
   have e5: ¬R=0:=by omega
   clear hsz hbad hR
   go_wp2_with(refine wpList_store_row rfl 203 (.tmp 4) (.tmp 31) rfl w.heap.size _ rfl rfl 203 _ R2.out rentInfo rfl z_one ?_)
   refine bodyPost_ret (v:= .tuple #[entV 0 0 0 (fun _=>0) 0 none 0 0,.int .i64 5]) (by exact res_row Tryz.results167 _ _ w.heap.size 203 _ (0,0) _ _ rfl rfl (Blk.setRow R2.out zL) Tryz.underlying203 rfl rentInfo) rfl ?_
   unfold EntTold2
   rw[HF.out.1,HF.out.1,HF.out.1,HF.out.1,HF.out.2.1,HF.out.2.2,HCe.out]
   exact⟨none,0,rfl,setRow_keepB HB2.out (yR _) _,in2_none _ _ _ _,fun b off e=>by cases e⟩
 have he0:=HEr.out.trans (if_neg (by rw[D2.out];omega))
 have hcd2:=HCd.out
 rw[he0,if_neg (by decide)]at hcd2
 have HCx:=yH hcd2
 obtain⟨t,ht⟩: ∃t,m=48+16*t:=⟨(m-48)/16,by omega⟩
 subst ht
 have htn:itN bd=t:=by rw[HTn.out,D2.out];omega
 have HTN:=yH htn
 have ht1:1≤t:=by omega
 have e1: ¬((48+16*t:Nat):Int)<64:=by omega
 have e2:((48+16*t:Nat):Int).tmod 16=0:=by rw[Int.tmod_eq_emod_of_nonneg (by omega)];omega
 have e2':((48+16*t:Nat):Int)%16=0:=by omega
 have HLw:=yH R2.out.lt
 clear hsz hbad htn he0 hcd2
 go_upto_region 7 with(first
  |(go_at_call 114;(first|(with_reducible refine(HNu.out 0 0 _ _ _ _ D1.out D2.out (by omega) rfl (by omega)).mono ?_)|(with_reducible refine(HNu.out 8 8 _ _ _ _ D1.out D2.out (by omega) rfl (by omega)).mono ?_)|(with_reducible refine(HNu.out 16 16 _ _ _ _ D1.out D2.out (by omega) rfl (by omega)).mono ?_)|(with_reducible refine(HNu.out 40 40 _ _ _ _ D1.out D2.out (by omega) rfl (by omega)).mono ?_));rintro e w' ⟨rfl,rfl⟩)
  |(refine wpList_build_as rfl 203 _ rfl #[.int .u64 (u8 bd 0),.int .u64 (u8 bd 8),.int .u64 (u8 bd 16),.int .u8 0,.int .u8 0,.int .u8 0,.int .u8 0,.int .u8 0,.int .u8 0,.int .u8 0,.int .u8 0,.int .u8 0,.int .u8 0,.int .u8 0,.int .u8 0,.int .u8 0,.int .u8 0,.int .u8 0,.int .u8 0,.int .u64 (u8 bd 40),.slice none 0 0] (by kernel_rfl) ?_)
  |(refine wpList_store_row rfl 203 (.tmp 8) (.tmp 40) rfl w2.heap.size #[.int .u64 (u8 bd 0),.int .u64 (u8 bd 8),.int .u64 (u8 bd 16),.int .u8 0,.int .u8 0,.int .u8 0,.int .u8 0,.int .u8 0,.int .u8 0,.int .u8 0,.int .u8 0,.int .u8 0,.int .u8 0,.int .u8 0,.int .u8 0,.int .u8 0,.int .u8 0,.int .u8 0,.int .u8 0,.int .u64 (u8 bd 40),.slice none 0 0] rfl rfl 203 zL.toArray (Blk.new w2 zL 203) rentInfo rfl (by simp[Value.oneCell']) ?_))
 have X0:=yH (show Blk ((w2.alloc (zC 203)).setRow w2.heap.size #[.int .u64 (u8 bd 0),.int .u64 (u8 bd 8),.int .u64 (u8 bd 16),.int .u8 0,.int .u8 0,.int .u8 0,.int .u8 0,.int .u8 0,.int .u8 0,.int .u8 0,.int .u8 0,.int .u8 0,.int .u8 0,.int .u8 0,.int .u8 0,.int .u8 0,.int .u8 0,.int .u8 0,.int .u8 0,.int .u64 (u8 bd 40),.slice none 0 0]) w2.heap.size (entL (u8 bd 0) (u8 bd 8) (u8 bd 16) (Kp bd 0) (u8 bd 40) none 0 0) 203 from Blk.setRow (show Blk (w2.alloc (zC 203)) w2.heap.size zL 203 from Blk.new w2 zL _) (entL (u8 bd 0) (u8 bd 8) (u8 bd 16) (fun _=>0) (u8 bd 40) none 0 0))
 have BX:=yH (show Below w2.heap.size w2 ((w2.alloc (zC 203)).setRow w2.heap.size #[.int .u64 (u8 bd 0),.int .u64 (u8 bd 8),.int .u64 (u8 bd 16),.int .u8 0,.int .u8 0,.int .u8 0,.int .u8 0,.int .u8 0,.int .u8 0,.int .u8 0,.int .u8 0,.int .u8 0,.int .u8 0,.int .u8 0,.int .u8 0,.int .u8 0,.int .u8 0,.int .u8 0,.int .u8 0,.int .u64 (u8 bd 40),.slice none 0 0])from setRow_keepB ((Below.refl w2.heap.size w2).alloc (yR _) _) (yR _) _)
 generalize (w2.alloc (zC 203)).setRow w2.heap.size #[.int .u64 (u8 bd 0),.int .u64 (u8 bd 8),.int .u64 (u8 bd 16),.int .u8 0,.int .u8 0,.int .u8 0,.int .u8 0,.int .u8 0,.int .u8 0,.int .u8 0,.int .u8 0,.int .u8 0,.int .u8 0,.int .u8 0,.int .u8 0,.int .u8 0,.int .u8 0,.int .u8 0,.int .u8 0,.int .u64 (u8 bd 40),.slice none 0 0]=w3 at*
 have RX:=yH (R2.out.below BX.out HLw.out)
 have WX:=yH (HB2.out.trans (BX.out.mono HB2.out.size))
 have x0:=X0.out.cell (i:=0) rfl
 obtain⟨s0,hs0⟩: ∃s0,s0=u8 bd 0:=⟨_,rfl⟩
 by_cases hz:u8 bd 0=0
 ·have HCe:=yH (HCx.out.trans (if_pos hz))
  have HF:=yH (HNo.out (by rw[HCe.out];decide))
  rw[hz]at x0
  clear hs0
  go_wp2_with(refine wpList_store_row rfl 203 (.tmp 4) (.tmp 44) rfl w.heap.size _ rfl rfl 203 _ RX.out rentInfo rfl z_one ?_)
  refine bodyPost_ret (v:= .tuple #[entV 0 0 0 (fun _=>0) 0 none 0 0,.int .i64 13]) (by exact res_row Tryz.results167 _ _ w.heap.size 203 _ (0,0) _ _ rfl rfl (Blk.setRow RX.out zL) Tryz.underlying203 rfl rentInfo) rfl ?_
  unfold EntTold2
  rw[HF.out.1,HF.out.1,HF.out.1,HF.out.1,HF.out.2.1,HF.out.2.2,HCe.out]
  exact⟨none,0,rfl,setRow_keepB WX.out (yR _) _,in2_none _ _ _ _,fun b off e=>by cases e⟩
 have hcx2:=HCx.out.trans (if_neg hz)
 rw[HTN.out]at hcx2
 have HC2:=yH hcx2
 have hz2:(u8 bd 0==0)=false:=by simpa using hz
 obtain⟨b,off,rfl,hbl,hcell⟩:=D1.out.spot (by rw[D2.out];omega)
 have HCl:=yH hcell
 clear hcx2 hcell hs0
 go_wp2_with fail
 go_loopw [9] (fun i wr=> ∃j:Nat,j≤16∧i= .int .i64 (j:Int)∧Hid (Blk wr w2.heap.size (entL (u8 bd 0) (u8 bd 8) (u8 bd 16) (Kp bd j) (u8 bd 40) none 0 0) 203)∧Hid (Below w2.heap.size w2 wr)) (fun i _=>16-(intOf i).toNat)
 case atStart=>exact⟨0,by omega,rfl,X0,BX⟩
 case round=>
  obtain⟨j,hj,rfl,hx,hbx⟩:=hrel
  by_cases hlt:j<16
  ·have hcb:=(hbx.out.cell (p:=⟨b,off+(24+j),none⟩) hbl).trans (HCl.out (24+j) (by rw[D2.out];omega))
   obtain⟨u,hu⟩:=ent_cell hx.out j hlt
   have hfz:=hx.out.frozen (3+j)
   have hit:bd.getD (24+j) 0=itK bd j:=(if_pos hlt).symm
   rw[hit]at hcb
   have HSt:=yH (show Blk (wr.setCell ⟨w2.heap.size,3+j,none⟩ (.int .u8 (itK bd j))) w2.heap.size (entL (u8 bd 0) (u8 bd 8) (u8 bd 16) (Kp bd (j+1)) (u8 bd 40) none 0 0) 203 from kp_set bd j hlt (u8 bd 0) (u8 bd 8) (u8 bd 16) (u8 bd 40) none 0 0▸hx.out.set_ (3+j) (.int .u8 (itK bd j)))
   have hj0:(0:Int)≤(j:Int):=by omega
   have hj16:(j:Int)<16:=by omega
   generalize itK bd j=kv at*
   clear hit
   go_wp2
   go_roundw
   case rel=>exact⟨j+1,by omega,by go_num,HSt,yH (hbx.out.setCell (yR _) _)⟩
   case measure=>simp[intOf];omega
  ·have hj16:j=16:=by omega
   have hj2: ¬(j:Int)<16:=by omega
   have hx2:=hx.out
   rw[hj16,kp_all]at hx2
   clear hj16
   have HX2:=yH hx2
   have HBx:=yH hbx.out
   clear hx hx2 hbx X0 BX RX WX x0
   rename World=>wA
   go_wp2_with fail
   go_loopw [10] (fun i wr=> ∃(q:Nat) (A':Option Addr) (c':Nat),q≤t∧i= .int .i64 ((48+16*q:Nat):Int)∧Hid (Blk wr w2.heap.size (entL (u8 bd 0) (u8 bd 8) (u8 bd 16) (itK bd) (u8 bd 40) A' q c') 203)∧Hid (OwnE 199 2 wr (w2.heap.size+1) A' q c' (two (itA bd) (itH bd) q))∧Hid (risB (itA bd) q=true)∧Hid (Below w2.heap.size w2 wr)) (fun i _=>48+16*t-(intOf i).toNat)
   case atStart=>exact⟨0,none,0,Nat.zero_le _,rfl,HX2,OwnE.nil _ _ (Nat.succ_le_of_lt HX2.out.lt),yH rfl,HBx⟩
   case round=>
    obtain⟨q,A',c',hq,rfl,he,ho,hri,hb⟩:=hrel
    have e20:=he.out.cell (i:=20) rfl
    have RX:=yH (R2.out.below hb.out HLw.out)
    have WX:=yH (HB2.out.trans (hb.out.mono HB2.out.size))
    by_cases hlt:q<t
    ·have Dr:=yH (D1.out.below hb.out (yR _)).drew
     have HWs:=yH (two_succ (itA bd) (itH bd) q)
     have HAf:=yH (show itA bd q=u8 bd (48+16*q)from rfl)
     have HHf:=yH (show itH bd q=u8 bd (48+16*q+8)from rfl)
     have hbo:=yH (show Blk (wr.alloc (.cells #[.int .u64 (u8 bd (48+16*q)),.int .u64 (u8 bd (48+16*q+8))] 199)).drew wr.heap.size [.int .u64 (u8 bd (48+16*q)),.int .u64 (u8 bd (48+16*q+8))] 199 from Blk.new wr _ _)
     have hgw:=he.out.lt
     have Na:=yH ((Below.refl wr.heap.size wr).alloc (yR _) (.cells #[.int .u64 (u8 bd (48+16*q)),.int .u64 (u8 bd (48+16*q+8))] 199)).drew
     have u1:wr.drew.cell? ⟨w2.heap.size,20,none⟩=some (.slice A' q c'):=e20
     have v1:=(Na.out.cell (p:=⟨w2.heap.size,20,none⟩) hgw).trans e20
     have hlt':((48+16*q:Nat):Int)<((48+16*t:Nat):Int):=by omega
     have hwu:IntKind.u64.wrap (48+16*(q:Int))=48+16*(q:Int):=by rw[IntKind.wrap_u64];omega
     have hwi:IntKind.i64.wrap (48+16*(q:Int)+8)=48+16*(q:Int)+8:=by rw[IntKind.wrap_i64];omega
     have hwu2:IntKind.u64.wrap (48+16*(q:Int)+8)=48+16*(q:Int)+8:=by rw[IntKind.wrap_u64];omega
     go_wp2_with fail
     have HRi:=hri
     go_cut [10]from 66 to 79 (fun z wx=> ∃(A2:Option Addr) (c2:Nat),z= .int .i64 ((48+16*q:Nat):Int)∧Hid (Blk wx w2.heap.size (entL (u8 bd 0) (u8 bd 8) (u8 bd 16) (itK bd) (u8 bd 40) A2 (q+1) c2) 203)∧Hid (OwnE 199 2 wx (w2.heap.size+1) A2 (q+1) c2 (two (itA bd) (itH bd) (q+1)))∧Hid (Below w2.heap.size w2 wx))
     case first=>
      go_region_law (first
       |(refine step_append_elt ritemElt (o:=⟨some 79,_,_,_,_,_⟩) rfl (.tmp 67) (.tmp 78) rfl (w2.heap.size+1) A' q c' _ rfl ((ho.out.alloc (.cells #[.int .u64 (u8 bd (48+16*q)),.int .u64 (u8 bd (48+16*q+8))] 199)).drew) ⟨wr.heap.size,0,none⟩ 1 1 [.int .u64 (u8 bd (48+16*q)),.int .u64 (u8 bd (48+16*q+8))] rfl rfl (Blk.news hbo.out) (by intro u hu;simp at hu;rcases hu with rfl|rfl<;>rfl) (by omega) (by omega) ?_;intro A2 c2 w4 ho4 hb4;rw[←HAf.out,←HHf.out,←HWs.out]at ho4;have HO4:=yH ho4;have hb5:=((Below.refl wr.heap.size wr).alloc (yR _) (.cells #[.int .u64 (u8 bd (48+16*q)),.int .u64 (u8 bd (48+16*q+8))] 199)).drew;have hb6:=Below.trans (hb5.mono (by omega:w2.heap.size+1≤wr.heap.size)) hb4;have HB4:=yH (hb.out.trans (hb6.mono (Nat.le_succ _)));have E4:=yH (he.out.below hb6 (Nat.lt_succ_self _));have x1:=E4.out.cell (i:=20) rfl;have y1:=E4.out.frozen 20;clear ho4 hb4 hb5 hb6)
       |(go_simp;go_at_call 114;(first|(with_reducible refine(HNu.out (48+16*q) _ _ _ _ _ Dr.out D2.out (by omega) (by omega) (by omega)).mono ?_)|(with_reducible refine(HNu.out (48+16*q+8) _ _ _ _ _ Dr.out D2.out (by omega) (by omega) (by omega)).mono ?_));rintro e w' ⟨rfl,rfl⟩))
      all_goals
       go_wp2_with fail
       go_meet
       case rel=>exact⟨A2,c2,rfl,yH (E4.out.set_ 20 _),yH (OwnE.farE HO4.out (by simp) _),yH (HB4.out.setCell (yR _) _)⟩
     case rest=>
      rename World=>W5
      obtain⟨A2,c2,rfl,E5,O5,B5⟩:=hcut
      clear u1 v1 hwu hwi hwu2 Na hbo Dr
      have R5:=yH (R2.out.below B5.out.drew HLw.out)
      have W5b:=yH (HB2.out.trans (B5.out.drew.mono HB2.out.size))
      have f20:W5.drew.cell? ⟨w2.heap.size,20,none⟩=some (.slice A2 (q+1) c2):=E5.out.cell (i:=20) rfl
      rcases Nat.eq_zero_or_pos q with hq0|hq0
      ·subst hq0
       go_wp2_with fail
       go_region
       all_goals
        go_wp2
        go_roundw
        case rel=>exact⟨1,A2,c2,by omega,by go_num,yH E5.out.drew,yH O5.out.drew,yH rfl,yH B5.out.drew⟩
        case measure=>simp[intOf];omega
      ·obtain⟨p,rfl⟩: ∃p,q=p+1:=⟨q-1,by omega⟩
       have hI:=own_in2 O5.out.drew (fun i _=>u8_bd HAb.out _) (fun i _=>u8_bd HAb.out _)
       obtain⟨g5,o5,ea,hg5,k1,_⟩:=hI (p+1) (by omega)
       obtain⟨g6,o6,eb,_,k2,_⟩:=hI p (by omega)
       rw[ea]at eb
       simp at eb
       obtain⟨rfl,rfl⟩:=eb
       subst ea
       have hs:=risB_succ (itA bd) (p+1) (by omega)
       rw[hri.out,Bool.true_and]at hs
       have hg:decide ((0:Int)<((p+1:Nat):Int))=true:=decide_eq_true (by omega)
       have hg2:(0:Int)<((p+1:Nat):Int):=by omega
       have hw:IntKind.i64.wrap (((p+1:Nat):Int)-1)=(p:Int):=by rw[IntKind.wrap_i64];omega
       have hw1:((p+1:Nat):Int)-1=(p:Int):=by omega
       have hp0:(0:Int)≤(p:Int):=by omega
       have hp1:(p:Int)<((p+1+1:Nat):Int):=by omega
       have hp2:((p+1:Nat):Int)<((p+1+1:Nat):Int):=by omega
       by_cases hle:itA bd (p+1)≤itA bd p
       ·have hf:risB (itA bd) t=false:=by
         cases hq:risB (itA bd) t with
         |false=>rfl
         |true=>
          have h3:=risB_mono (m:=p+2) hq (by omega)
          rw[hs]at h3
          have h4:itA bd p<itA bd (p+1):=by simpa using h3
          omega
        have HCe:=yH (HC2.out.trans (if_neg (by rw[hf];decide)))
        have HF:=yH (HNo.out (by rw[HCe.out];decide))
        clear hs hf hI
        go_wp2_with fail
        go_region
        all_goals
         go_wp2_with(refine wpList_store_row rfl 203 (.tmp 4) (.tmp 99) rfl w.heap.size _ rfl rfl 203 _ R5.out rentInfo rfl z_one ?_)
         refine bodyPost_ret (v:= .tuple #[entV 0 0 0 (fun _=>0) 0 none 0 0,.int .i64 11]) (by exact res_row Tryz.results167 _ _ w.heap.size 203 _ (0,0) _ _ rfl rfl (Blk.setRow R5.out zL) Tryz.underlying203 rfl rentInfo) rfl ?_
         unfold EntTold2
         rw[HF.out.1,HF.out.1,HF.out.1,HF.out.1,HF.out.2.1,HF.out.2.2,HCe.out]
         exact⟨none,0,rfl,setRow_keepB W5b.out (yR _) _,in2_none _ _ _ _,fun b off e=>by cases e⟩
       ·have HS2:=yH (show risB (itA bd) (p+2)=true by rw[hs];exact decide_eq_true (show itA bd (p+1-1)<itA bd (p+1)by rw[Nat.add_sub_cancel];omega))
        clear hs hI
        go_wp2_with fail
        go_region
        all_goals
         go_wp2
         go_roundw
         case rel=>exact⟨p+2,some ⟨g5,o5,none⟩,c2,by omega,by go_num,yH E5.out.drew,yH O5.out.drew,HS2,yH B5.out.drew⟩
         case measure=>simp[intOf];omega
    ·obtain rfl:q=t:=by omega
     have HCe:=yH (HC2.out.trans (if_pos hri.out))
     have HF:=yH (HYe.out HCe.out)
     have HI:=yH (own_in2 ho.out (fun i _=>u8_bd HAb.out _) (fun i _=>u8_bd HAb.out _))
     have HNe:=yH (fun b off (e:A'=some ⟨b,off,none⟩)=>show b≠w.heap.size by
      have h1:=Dc.OwnE.ltB ho.out b (by rw[e];rfl)
      have h2:=HLw.out
      omega)
     have HNw:=yH (fun b off (e:A'=some ⟨b,off,none⟩)=>show w.heap.size≤b by
      have h1:=Dc.OwnE.ltB ho.out b (by rw[e];rfl)
      have h2:=HLw.out
      omega)
     go_wp2_with(first
      |(refine wpList_load_row rfl 203 (.tmp 8) rfl w2.heap.size rfl 203 (entL (u8 bd 0) (u8 bd 8) (u8 bd 16) (itK bd) (u8 bd 40) A' q c').toArray (0,0) _ he.out Tryz.underlying203 rfl rentInfo ?_)
      |(refine wpList_store_row rfl 203 (.tmp 4) (.tmp 100) rfl w.heap.size (entL (u8 bd 0) (u8 bd 8) (u8 bd 16) (itK bd) (u8 bd 40) A' q c').toArray rfl rfl 203 _ RX.out rentInfo rfl (ent_one _ _ _ _ _ _ _ _) ?_))
     refine bodyPost_ret (v:= .tuple #[entV (u8 bd 0) (u8 bd 8) (u8 bd 16) (itK bd) (u8 bd 40) A' q c',.int .i64 0]) (by exact res_row Tryz.results167 _ _ w.heap.size 203 _ (0,0) _ _ rfl rfl (Blk.setRow RX.out (entL (u8 bd 0) (u8 bd 8) (u8 bd 16) (itK bd) (u8 bd 40) A' q c')) Tryz.underlying203 rfl rentInfo) rfl ?_
     unfold EntTold2
     obtain⟨t0,t8,t16,t40,tK,tN⟩:=HF.out
     rw[t0,t8,t16,t40,tK,tN,HCe.out,HTN.out,HBD.out]
     exact⟨A',c',rfl,setRow_keepB WX.out (yR _) _,In2.setRow HI.out (fun b off e=>HNe.out b off e) _,HNw.out⟩
end Yn
namespace Mb
open Bytes8 Blk8 Own8 OwnE LeNum Ob Od Ma Kf
theorem room_any (k:Nat)(w:World):Calls Tryz.prog 153 #[.int .i64 (k:Int)] w fun e w'=>e= .returned (.int .i64 (roomN k:Nat))∧w=w':=by
 by_cases h:6<k
 ·have d1:decide ((6:Int)<(k:Int))=true:=by simp;omega
  rw[show roomN k=256 by unfold roomN;rw[if_pos h]]
  go_enter Tryz.func153,Tryz.ntmps153
  go_wp2
  go_ret
  exact⟨rfl,rfl⟩
 ·rcases k with _|_|_|_|_|_|_|k
  all_goals first
   |omega
   |(go_enter Tryz.func153,Tryz.ntmps153
     go_wp2
     go_ret
     exact⟨rfl,rfl⟩)
theorem own_set {w:World}{base g n c:Nat}{l:List Int}(h:Own w base (some ⟨g,0,none⟩) n c l)(i:Nat){x:Int}(h0:0≤x)(h1:x<256):Own (w.setCell ⟨g,i,none⟩ (.int .u8 x)) base (some ⟨g,0,none⟩) n c (l.set i x):=by
 refine⟨h.1.set i h0 h1,by rw[List.length_set];exact h.2.1,by simpa using h.2.2.1,?_⟩
 have:=(h.2.2.2.stored i (.int .u8 x)).1
 rw[List.map_set]
 exact this
theorem own_lt {w:World}{base g n c:Nat}{l:List Int}(h:Own w base (some ⟨g,0,none⟩) n c l):base≤g∧g<w.heap.size:=h.lt g rfl
structure Put8 (bb:Nat)(w w':World):Prop where
 kept:KeptF (One bb) w w'
 size:w'.heap.size=w.heap.size
theorem Put8.refl (bb:Nat)(w:World):Put8 bb w w:=⟨KeptF.refl _ _,rfl⟩
theorem Put8.set {bb:Nat}{w0 w:World}(h:Put8 bb w0 w)(i:Nat)(u:Value):Put8 bb w0 (w.setCell ⟨bb,i,none⟩ u):=⟨h.kept.setCell (p:=⟨bb,i,none⟩) (fun _=>(rfl:bb=bb)) u,by simpa using h.size⟩
theorem Put8.trans {bb:Nat}{a b c:World}(h:Put8 bb a b)(k:Put8 bb b c):Put8 bb a c:=⟨h.kept.trans k.kept fun _ _ h=>h,k.size.trans h.size⟩
theorem blk_keptF {F:Nat→Prop}{w w':World}{g:Nat}{vs:List Value}{T:TypeId}(h:Blk w g vs T)(hk:KeptF F w w')(hF: ¬F g):Blk w' g vs T:=(hk.block g h.lt hF).trans h
theorem put_any (g bb cb n a:Nat)(cs:List Value)(T:TypeId)(l:List Int)(v:Int)(B:Nat)(w:World)(hs:Blk w g cs T)(h3:cs[143]? =some (.slice (some ⟨bb,0,none⟩) n cb))(hb:Own w B (some ⟨bb,0,none⟩) n cb l)(hne:g≠bb)(ha:a+8≤n)(hn:n≤4000000):
 Calls Tryz.prog 104 #[.pointer (some ⟨g,0,none⟩),.int .u64 (a:Int),.int .u64 v] w fun e w'=>e= .returned (.tuple #[])∧Own w' B (some ⟨bb,0,none⟩) n cb (put8 l a v)∧Put8 bb w w':=by
 have HS:=yH hs
 have H3:=yH h3
 have HL:=yH hb.2.1
 clear hs h3
 go_enter Tryz.func104,Tryz.ntmps104
 go_wp2
 go_loopw [6] (fun i wr=> ∃k:Nat,k≤8∧i= .int .i64 (k:Int)∧Hid (Own wr B (some ⟨bb,0,none⟩) n cb (over l a (lowB v k)))∧Hid (Put8 bb w wr)) (fun i _=>8-(intOf i).toNat)
 case atStart=>exact⟨0,Nat.zero_le _,rfl,yH (by rw[show lowB v 0=[]from rfl,over_nil];exact hb),yH (Put8.refl _ _)⟩
 case round=>
  obtain⟨k,hk,rfl,hO,hP⟩:=hrel
  by_cases hlt:k<8
  ·have c3:=(blk_keptF HS.out hP.out.kept hne).cell H3.out
   have hcell:=hO.out.2.2.2.cellAt (a+k) (by omega)
   have hfr:=hO.out.2.2.2.frozenAt (a+k)
   obtain⟨z,hz2⟩: ∃z,(over l a (lowB v k))[a+k]? =some z:=⟨_,List.getElem?_eq_getElem (by rw[hO.out.2.1];omega)⟩
   rw[List.getElem?_map,hz2]at hcell
   clear hz2
   have HSt:=yH (own_set hO.out (a+k) (Int.emod_nonneg (v/256^k) (by decide:(256:Int)≠0)) (Int.emod_lt_of_pos (v/256^k) (by decide)))
   rw[show(over l a (lowB v k)).set (a+k) (v/256^k%256)=over l a (lowB v (k+1))by
    have e:=over_step l a (lowB v k) (v/256^k%256) (by rw[lowB_len,HL.out];omega)
    rw[lowB_len]at e
    rw[lowB_succ,e]]at HSt
   rw[←two_pow_8]at HSt
   have hpk:a+k<n:=by omega
   generalize hpk2:a+k=pk at*
   go_wp2
   go_roundw
   case rel=>exact⟨k+1,by omega,by go_num,HSt,yH (hP.out.set _ _)⟩
   case measure=>simp[intOf];omega
  ·obtain rfl:k=8:=by omega
   go_wp2
   go_end0
   exact⟨rfl,hO.out,hP.out⟩
theorem put_at (g bb cb n a:Nat)(z:Int)(hz:z=(a:Int))(cs:List Value)(T:TypeId)(l:List Int)(v:Int)(B:Nat)(w:World)(hs:Blk w g cs T)(h3:cs[143]? =some (.slice (some ⟨bb,0,none⟩) n cb))(hb:Own w B (some ⟨bb,0,none⟩) n cb l)(hne:g≠bb)(ha:a+8≤n)(hn:n≤4000000):
 Calls Tryz.prog 104 #[.pointer (some ⟨g,0,none⟩),.int .u64 z,.int .u64 v] w fun e w'=>e= .returned (.tuple #[])∧Own w' B (some ⟨bb,0,none⟩) n cb (put8 l a v)∧Put8 bb w w':=by
 subst hz;exact put_any g bb cb n a cs T l v B w hs h3 hb hne ha hn
end Mb
namespace Mc
open Bytes8 Blk8 Own8 OwnA OwnE Ob Od Ga Ma Kf Mb
structure Sl where
 b:Value
 d:Value
 f:Value
 m:Value
def Cf.at_ (C:Cf)(i:Nat):Value:=
 if i<48 then(if i<16 then .int .u8 (C.F i)else if i<32 then .int .u8 (C.M (i-16))else .int .u8 (C.S (i-32)))
 else if i=48 then .int .i64 (C.ds:Int)else if i=49 then .int .i64 (C.fs:Int)else if i=50 then .int .i64 (C.most:Int)else .bool C.keyed
def Mk.at_ (m:Mk)(S:Sl)(i:Nat):Value:=
 if i<142 then(if i<52 then Cf.at_ m.C i else m.h.at_ 20 (i-52))
 else if i=142 then .int .u64 (m.depth:Int)else if i=143 then S.b else if i=144 then S.d else if i=145 then S.f else S.m
def Mk.cells (m:Mk)(S:Sl):List Value:=(List.range 147).map (Mk.at_ m S)
theorem Mk.len (m:Mk)(S:Sl):(Mk.cells m S).length=147:=by simp[Mk.cells]
theorem Mk.get (m:Mk)(S:Sl)(i:Nat)(hi:i<147):(Mk.cells m S)[i]? =some (Mk.at_ m S i):=by simp[Mk.cells,hi]
theorem Mk.get_N (m:Mk)(S:Sl)(i:Nat)(hi:i<20):(Mk.cells m S)[119+i]? =some (.int .u64 (m.h.N i)):=by
 rw[Mk.get m S _ (by omega)]
 unfold Mk.at_
 rw[if_pos (by omega),if_neg (by omega),show 119+i-52=67+i by omega]
 have:=m.h.get_N 20 i hi
 rw[m.h.get 20 _ (by omega)]at this
 exact this
theorem Mk.get_depth (m:Mk)(S:Sl):(Mk.cells m S)[142]? =some (.int .u64 (m.depth:Int)):=by rw[Mk.get m S _ (by decide)];rfl
theorem Mk.get_b (m:Mk)(S:Sl):(Mk.cells m S)[143]? =some S.b:=by rw[Mk.get m S _ (by decide)];rfl
theorem Mk.get_d (m:Mk)(S:Sl):(Mk.cells m S)[144]? =some S.d:=by rw[Mk.get m S _ (by decide)];rfl
theorem Mk.get_f (m:Mk)(S:Sl):(Mk.cells m S)[145]? =some S.f:=by rw[Mk.get m S _ (by decide)];rfl
theorem Mk.get_m (m:Mk)(S:Sl):(Mk.cells m S)[146]? =some S.m:=by rw[Mk.get m S _ (by decide)];rfl
theorem Mk.get_ds (m:Mk)(S:Sl):(Mk.cells m S)[48]? =some (.int .i64 (m.C.ds:Int)):=by rw[Mk.get m S _ (by decide)];rfl
theorem Mk.get_fs (m:Mk)(S:Sl):(Mk.cells m S)[49]? =some (.int .i64 (m.C.fs:Int)):=by rw[Mk.get m S _ (by decide)];rfl
theorem Mk.get_most (m:Mk)(S:Sl):(Mk.cells m S)[50]? =some (.int .i64 (m.C.most:Int)):=by rw[Mk.get m S _ (by decide)];rfl
theorem Mk.get_F (m:Mk)(S:Sl)(i:Nat)(hi:i<16):(Mk.cells m S)[i]? =some (.int .u8 (m.C.F i)):=by
 rw[Mk.get m S _ (by omega)]
 unfold Mk.at_ Cf.at_
 rw[if_pos (by omega),if_pos (by omega),if_pos (by omega),if_pos hi]
abbrev fileV (C:Cf):List Value:=[.int .u8 (C.F 0),.int .u8 (C.F 1),.int .u8 (C.F 2),.int .u8 (C.F 3),.int .u8 (C.F 4),.int .u8 (C.F 5),.int .u8 (C.F 6),.int .u8 (C.F 7),.int .u8 (C.F 8),.int .u8 (C.F 9),.int .u8 (C.F 10),.int .u8 (C.F 11),.int .u8 (C.F 12),.int .u8 (C.F 13),.int .u8 (C.F 14),.int .u8 (C.F 15)]
theorem Mk.file_range {w:World}{g:Nat}{T:TypeId}{m:Mk}{S:Sl}(hb:Blk w g (Mk.cells m S) T):w.rangeAt g 0 (fileV m.C):=fun j v hj=>by
 have hl:j<16:=(List.getElem?_eq_some_iff.1 hj).1
 have h2:=hb.cell (Mk.get_F m S j hl)
 have e:(fileV m.C)[j]? =some (.int .u8 (m.C.F j)):=by
  rcases j with _|_|_|_|_|_|_|_|_|_|_|_|_|_|_|_|j
  all_goals first|rfl|omega
 rw[e]at hj
 injection hj with hj
 subst hj
 rw[Nat.zero_add]
 exact h2
theorem Mk.get_keyed (m:Mk)(S:Sl):(Mk.cells m S)[51]? =some (.bool m.C.keyed):=by rw[Mk.get m S _ (by decide)];rfl
theorem set_map (f f':Nat→Value)(n i:Nat)(v:Value)(h1:f' i=v)(h2: ∀j,j≠i→f' j=f j):((List.range n).map f).set i v=(List.range n).map f':=by
 apply List.ext_getElem?
 intro j
 rw[List.getElem?_set]
 by_cases hj:j<n
 ·by_cases he:i=j
  ·subst he
   simp[hj,h1]
  ·rw[if_neg he]
   simp[hj,h2 j (fun e=>he e.symm)]
 ·simp[hj]
  omega
theorem at_N (m:Mk)(S:Sl)(i:Nat)(hi:i<20):Mk.at_ m S (119+i)= .int .u64 (m.h.N i):=by
 have:=Mk.get_N m S i hi
 rw[Mk.get m S _ (by omega)]at this
 injection this
theorem Mk.set_N (m:Mk)(S:Sl)(i:Nat)(hi:i<20)(v:Int):(Mk.cells m S).set (119+i) (.int .u64 v)=Mk.cells {m with h:=setN m.h i v} S:=by
 refine set_map _ _ _ _ _ ?_ fun j hj=>?_
 ·rw[at_N _ _ _ hi];simp[setN]
 ·unfold Mk.at_
  by_cases h1:j<142
  ·rw[if_pos h1,if_pos h1]
   by_cases h2:j<52
   ·rw[if_pos h2,if_pos h2]
   ·rw[if_neg h2,if_neg h2]
    unfold HD.at_
    simp only[setN]
    by_cases h3:j-52<67+20
    ·by_cases h4:j-52<67
     ·simp only[h4,if_true]
     ·rw[if_neg (by omega),if_neg h4,if_pos h3,if_neg (by omega),if_neg h4,if_pos h3,if_neg (by omega)]
    ·simp only[h3,if_false]
  ·rw[if_neg h1,if_neg h1]
theorem Mk.set_Nk (m:Mk)(S:Sl)(i k:Nat)(hi:i<20)(hk:k=119+i)(v:Int):(Mk.cells m S).set k (.int .u64 v)=Mk.cells {m with h:=setN m.h i v} S:=by subst hk;exact Mk.set_N m S i hi v
theorem Mk.get_Nk (m:Mk)(S:Sl)(i k:Nat)(hi:i<20)(hk:k=119+i):(Mk.cells m S)[k]? =some (.int .u64 (m.h.N i)):=by subst hk;exact Mk.get_N m S i hi
theorem Mk.set_depth (m:Mk)(S:Sl)(v:Nat):(Mk.cells m S).set 142 (.int .u64 (v:Int))=Mk.cells {m with depth:=v} S:=
 set_map _ _ _ _ _ rfl fun j hj=>by
  unfold Mk.at_
  by_cases h1:j<142
  ·rw[if_pos h1,if_pos h1]
  ·rw[if_neg h1,if_neg h1,if_neg hj,if_neg hj]
theorem Mk.set_b (m:Mk)(S:Sl)(v:Value):(Mk.cells m S).set 143 v=Mk.cells m {S with b:=v}:=
 set_map _ _ _ _ _ rfl fun j hj=>by
  unfold Mk.at_
  by_cases h1:j<142
  ·rw[if_pos h1,if_pos h1]
  ·rw[if_neg h1,if_neg h1,if_neg hj,if_neg hj]
theorem Mk.set_d (m:Mk)(S:Sl)(v:Value):(Mk.cells m S).set 144 v=Mk.cells m {S with d:=v}:=
 set_map _ _ _ _ _ rfl fun j hj=>by
  unfold Mk.at_
  by_cases h1:j<142
  ·rw[if_pos h1,if_pos h1]
  ·rw[if_neg h1,if_neg h1,if_neg hj,if_neg hj]
theorem Mk.set_f (m:Mk)(S:Sl)(v:Value):(Mk.cells m S).set 145 v=Mk.cells m {S with f:=v}:=
 set_map _ _ _ _ _ rfl fun j hj=>by
  unfold Mk.at_
  by_cases h1:j<142
  ·rw[if_pos h1,if_pos h1]
  ·rw[if_neg h1,if_neg h1,if_neg hj,if_neg hj]
theorem Mk.set_m (m:Mk)(S:Sl)(v:Value):(Mk.cells m S).set 146 v=Mk.cells m {S with m:=v}:=by
 refine(List.ext_getElem? fun j=>?_)
 rw[List.getElem?_set]
 by_cases hj:j<147
 ·by_cases he:146=j
  ·subst he
   rw[if_pos rfl,if_pos (by rw[Mk.len];decide),Mk.get _ _ _ hj]
   rfl
  ·rw[if_neg he,Mk.get _ _ _ hj,Mk.get _ _ _ hj]
   unfold Mk.at_
   by_cases h1:j<142
   ·rw[if_pos h1,if_pos h1]
   ·rw[if_neg h1,if_neg h1]
    by_cases h2:j=142
    ·rw[if_pos h2,if_pos h2]
    ·rw[if_neg h2,if_neg h2]
     by_cases h3:j=143
     ·rw[if_pos h3,if_pos h3]
     ·rw[if_neg h3,if_neg h3]
      by_cases h4:j=144
      ·rw[if_pos h4,if_pos h4]
      ·rw[if_neg h4,if_neg h4,if_pos (by omega),if_pos (by omega)]
 ·rw[if_neg (by omega),List.getElem?_eq_none (by rw[Mk.len];omega),List.getElem?_eq_none (by rw[Mk.len];omega)]
theorem Mk.cells_same {m m':Mk}(h1:m.C=m'.C)(h2:m.h=m'.h)(h3:m.depth=m'.depth)(S:Sl):Mk.cells m S=Mk.cells m' S:=by
 unfold Mk.cells
 congr 1
 funext i
 unfold Mk.at_
 rw[h1,h2,h3]
theorem wpList_append_g {w:World}{ops:Array Oper}{rest:List Oper}{o:Oper}{a:Act}{Q:Exit→Act→World→Prop}(hgd:o.guard=none)(s x:Operand)
 (hop:o.op= .call {callee:= .builtin .append,args:= #[s,x],argTypes:= #[24,24]})
 (base bb:Nat)(n c:Nat)(l:List Int)(hs:a.eval s= .slice (some ⟨bb,0,none⟩) n c)(ho:Own w base (some ⟨bb,0,none⟩) n c l)(hn:0<n)(A2:Option Addr)(m c2:Nat)(ys:List Int)(hx:a.eval x= .slice A2 m c2)(hb:Bytes w A2 ys)(hm:ys.length=m)(hsz:n+m≤70368744177664)
 (h: ∀b' c' w',Own w' base (some ⟨b',0,none⟩) (n+m) c' (l++ys)→w.grownBy w' (some bb)→(b'=bb∨b'=w.heap.size)→wpList Tryz.prog ops Q rest (a.put o.dst (.slice (some ⟨b',0,none⟩) (n+m) c')) w'):wpList Tryz.prog ops Q (o::rest) a w:=
 wpList_plain hgd fun K hK=>by
  obtain⟨A',c',w',hr,h1,h2,h3⟩:=run_append_at w o.type base _ n c l ho A2 m c2 ys hb hm hsz
  unfold Oper.wp execOp
  simp only[hop,resolve,invoke,builtin,Sem.run_bind,Sem.run_pure,Result.andThen_ok,List.map_toArray,List.map_cons,List.map_nil,hs,hx,hr]
  rcases h1.2.2.2.2 with⟨he,h0⟩|⟨g,cap,cur,hv,hbg,hg,_⟩
  ·exfalso;omega
  ·injection hv with e1 e2 e3
   subst e1
   refine hK _ _ (h g c' w' h1 h2 ?_)
   simpa [ownB]using h3
end Mc
namespace Md
open Bytes8 Blk8 Own8 OwnM OwnE Od Ga Ma Kf Mb Mc
structure MkB (w:World)(B g bb cb:Nat)(S:Sl)(m:Mk):Prop where
 st:Blk w g (Mk.cells m {S with b:= .slice (some ⟨bb,0,none⟩) m.b.length cb}) 168
 own:Own w B (some ⟨bb,0,none⟩) m.b.length cb m.b
 ne:g≠bb
def Two (g bb:Nat)(k:Nat):Prop:=k=g∨k=bb
theorem MkB.put {w w':World}{B g bb cb:Nat}{S:Sl}{m:Mk}(h:MkB w B g bb cb S m){l:List Int}(hl:l.length=m.b.length)(ho:Own w' B (some ⟨bb,0,none⟩) m.b.length cb l)(hp:Put8 bb w w'):MkB w' B g bb cb S {m with b:=l}:=
 ⟨by show Blk w' g (Mk.cells m {S with b:= .slice (some ⟨bb,0,none⟩) l.length cb}) _
     rw[hl];exact blk_keptF h.st hp.kept h.ne,by show Own w' B _ l.length cb l;rw[hl];exact ho,h.ne⟩
def LongB (w:World)(B g bb:Nat)(S:Sl)(m:Mk)(w':World):Prop:= ∃bb' cb',MkB w' B g bb' cb' S m∧(bb'=bb∨w.heap.size≤bb')∧KeptF (Two g bb) w w'
attribute [local irreducible] Mk.cells wpList Code.wp
theorem object_any (B g bb cb:Nat)(S:Sl)(m:Mk)(A2:Option Addr)(k c2:Nat)(ys:List Int)(w:World)(h:MkB w B g bb cb S m)(hb:Bytes w A2 ys)(hk:ys.length=k)(h0:0<m.b.length)(hn:m.b.length+k≤4000000)(h7:0≤m.h.N 7∧m.h.N 7≤1000000)(hg:B≤g):
 Calls Tryz.prog 100 #[.pointer (some ⟨g,0,none⟩),.slice A2 k c2] w fun e w'=>e= .returned (.int .u64 (m.b.length:Nat))∧LongB w B g bb S (m.object ys) w':=by
 obtain⟨hs,ho,hne⟩:=h
 generalize hN:m.b.length=n at*
 have HN:=yH hN
 have HB:=yH hs
 have HO:=yH ho
 have c3:=HB.out.cell (Mk.get_b _ _)
 have f3:=HB.out.frozen 143
 have hgl:=HB.out.lt
 clear hs ho hN
 go_enter Tryz.func100,Tryz.ntmps100
 go_upto_region 4 with(refine wpList_append_g rfl (.tmp 16) (.tmp 17) rfl B bb n cb m.b rfl HO.out h0 A2 k c2 ys rfl hb hk (by omega) ?_;intro b' c' w2 ho2 hgr hat;have HO2:=yH ho2;have HB2:=yH (blk_grown HB.out hgr hne);have HK2:=yH (KeptF.grow _ hgr);clear ho2 hgr;have e3:=HB2.out.cell (Mk.get_b _ _);have d3:w2.frozen? ⟨g,143,none⟩=false:=HB2.out.frozen 143;have HC2:=yH (HB2.out.set_ 143 (.slice (some ⟨b',0,none⟩) (n+k) c'));have e6:=HC2.out.cell (i:=125) ((List.getElem?_set_ne (by decide)).trans (Mk.get_Nk _ _ 6 125 (by decide) rfl));have d6:(w2.setCell ⟨g,143,none⟩ (.slice (some ⟨b',0,none⟩) (n+k) c')).frozen? ⟨g,125,none⟩=false:=HC2.out.frozen 125)
 have hgb:g≠b':=by
  rcases hat with h|h
  ·rw[h];exact hne
  ·omega
 obtain⟨W4,hW4⟩: ∃x,x=(w2.setCell ⟨g,143,none⟩ (.slice (some ⟨b',0,none⟩) (n+k) c')).setCell ⟨g,125,none⟩ (.int .u64 (n:Int)):=⟨_,rfl⟩
 have hd:=HC2.out.set_ 125 (.int .u64 (n:Int))
 rw[Mk.set_b,Mk.set_Nk _ _ 6 125 (by decide) rfl,←hW4]at hd
 have HD:=yH hd
 have d7:=HD.out.cell (Mk.get_Nk _ _ 7 126 (by decide) rfl)
 have g7:=HD.out.frozen 126
 rw[show(setN m.h 6 (n:Int)).N 7=m.h.N 7 from rfl]at d7
 have HO4:=yH (show Own W4 B (some ⟨b',0,none⟩) (n+k) c' (m.b++ys)by
  have h1:Own (w2.setCell ⟨g,143,none⟩ (.slice (some ⟨b',0,none⟩) (n+k) c')) B (some ⟨b',0,none⟩) (n+k) c' (m.b++ys):=Kf.Own.keptF HO2.out (KeptF.set1 w2 g 143 _) (fun j hj e=>hgb (by injection hj with hj;exact(e.symm.trans hj.symm)))
  rw[hW4]
  exact Kf.Own.keptF h1 (KeptF.set1 _ g 125 _) (fun j hj e=>hgb (by injection hj with hj;exact(e.symm.trans hj.symm))))
 have HK4:=yH (show KeptF (Two g bb) w W4 by
  rw[hW4]
  exact(KeptF.setCell (p:=⟨g,143,none⟩) (F:=Two g bb) (HK2.out.mono (fun i e=>Or.inr (Option.some.inj e).symm)) (fun _=>Or.inl rfl) _).setCell (p:=⟨g,125,none⟩) (fun _=>Or.inl rfl) _)
 clear hd
 rw[←hW4]
 clear hW4
 have hwr:IntKind.u64.wrap (m.h.N 7+1)=m.h.N 7+1:=by rw[IntKind.wrap_u64];omega
 go_region
 go_wp2
 go_ret
 refine⟨rfl,b',c',⟨?_,?_,hgb⟩,?_,?_⟩
 ·have h5:=HD.out.set_ 126 (.int .u64 (m.h.N 7+1))
  rw[Mk.set_Nk _ _ 7 126 (by decide) rfl]at h5
  have hl:(m.object ys).b.length=n+k:=by show(m.b++ys).length=_;rw[List.length_append,HN.out,hk]
  rw[hl]
  have e:=Mk.cells_same (m:={m with h:=setN (setN m.h 6 (n:Int)) 7 (m.h.N 7+1)}) (m':=m.object ys) rfl (by show _=setN (setN m.h 6 ((m.b.length:Nat):Int)) 7 (m.h.N 7+1);rw[HN.out]) rfl {S with b:= .slice (some ⟨b',0,none⟩) (n+k) c'}
  have h6:Blk (W4.setCell ⟨g,126,none⟩ (.int .u64 (m.h.N 7+1))) g (Mk.cells {m with h:=setN (setN m.h 6 (n:Int)) 7 (m.h.N 7+1)} {S with b:= .slice (some ⟨b',0,none⟩) (n+k) c'}) 168:=h5
  rw[e]at h6
  exact h6
 ·have hl:(m.object ys).b.length=n+k:=by show(m.b++ys).length=_;rw[List.length_append,HN.out,hk]
  rw[hl]
  exact Kf.Own.keptF HO4.out ((KeptF.set1 _ g 126 _).drew) (fun j hj e=>hgb (by injection hj with hj;exact(e.symm.trans hj.symm)))
 ·rcases hat with h|h
  ·exact .inl h
  ·exact .inr (by omega)
 ·exact(HK4.out.setCell (p:=⟨g,126,none⟩) (fun _=>Or.inl rfl) _).drew
end Md
namespace Me
open Bytes8 Blk8 Own8 OwnE Od Ga Ma Kf Mb Mc
def Kns (w:World)(A:Option Addr)(ks:List Kn):Prop:= ∀i (h:i<ks.length),∃b,A=some ⟨b,0,none⟩∧b<w.heap.size∧
 w.cell? ⟨b,i*5,none⟩=some (.string (Fa.T ks[i].text))∧w.cell? ⟨b,i*5+1,none⟩=some (.int .u64 (ks[i].at_:Int))∧w.cell? ⟨b,i*5+2,none⟩=some (.int .i64 (ks[i].slot:Int))∧w.cell? ⟨b,i*5+3,none⟩=some (.int .i64 (ks[i].count:Int))
theorem lastIn_mem {l:List Kn}{slot:Nat}(h:inSlot l slot≠0): ∃k∈l,lastIn l slot=k.at_:=by
 unfold inSlot at h
 unfold lastIn
 rcases hf:(l.filter fun k=>k.slot==slot).getLast? with _|k
 ·rw[List.getLast?_eq_none_iff]at hf
  rw[hf]at h
  exact absurd rfl h
 ·have:=List.mem_of_getLast? hf
  exact⟨k,(List.mem_filter.1 this).1,by rw[hf];rfl⟩
theorem inSlot_le (l:List Kn)(slot:Nat):inSlot l slot≤l.length:=List.length_filter_le _ _
attribute [local irreducible] Mk.cells wpList Code.wp
theorem hang_any (g bb cb n table a slot len cap:Nat)(cs:List Value)(T:TypeId)(l:List Int)(A:Option Addr)(ks:List Kn)(B:Nat)(w:World)(hs:Blk w g cs T)(h3:cs[143]? =some (.slice (some ⟨bb,0,none⟩) n cb))(hb:Own w B (some ⟨bb,0,none⟩) n cb l)(hne:g≠bb)(hn:n≤4000000)
 (hk:Kns w A ks)(hl:ks.length=len)(hlen:len≤1000000)(hsl:slot≤1000)(ht:table+16*slot+16≤n)(ha: ∀k∈ks,k.at_+32≤n):
 Calls Tryz.prog 148 #[.pointer (some ⟨g,0,none⟩),.slice A len cap,.int .u64 (table:Int),.int .u64 (a:Int),.int .i64 (slot:Int)] w fun e w'=>e= .returned (.int .u64 (inSlot ks slot:Nat))∧Own w' B (some ⟨bb,0,none⟩) n cb (hung l ks table a slot)∧Put8 bb w w':=by
 have HS:=yH hs
 have H3:=yH h3
 have HB:=yH hb
 have HK:=yH hk
 have HA:=yH ha
 have HL:=yH hl
 clear hs h3 hb hk ha hl
 go_enter Tryz.func148,Tryz.ntmps148
 go_wp2
 go_loopw [11,12,13] (fun x y i wr=> ∃k:Nat,k≤len∧i= .int .i64 (k:Int)∧x= .int .u64 (inSlot (ks.take k) slot:Nat)∧y= .int .u64 (lastIn (ks.take k) slot:Nat)∧wr=w) (fun _ _ i _=>len-(intOf i).toNat)
 case atStart=>exact⟨0,Nat.zero_le _,rfl,rfl,rfl,rfl⟩
 case round=>
  obtain⟨k,hkk,rfl,rfl,rfl,rfl⟩:=hrel
  by_cases hlt:k<len
  ·have hki:k<ks.length:=by rw[HL.out];exact hlt
   obtain⟨b,rfl,hbl,c0,c1,c2,c4⟩:=HK.out k hki
   have HT:=yH (take_snoc_kn ks k hki)
   have HI:=yH (inSlot_snoc (ks.take k) ks[k] slot)
   have HLa:=yH (lastIn_snoc (ks.take k) ks[k] slot)
   have hil:inSlot (ks.take k) slot≤k:=Nat.le_trans (inSlot_le _ _) (by simp;omega)
   clear c0 c4
   generalize ks[k]=q at*
   obtain⟨qs,hqs⟩: ∃x,x=q.slot:=⟨_,rfl⟩
   obtain⟨i0,hi0⟩: ∃x,x=inSlot (ks.take k) slot:=⟨_,rfl⟩
   obtain⟨l0,hl0⟩: ∃x,x=lastIn (ks.take k) slot:=⟨_,rfl⟩
   rw[←hqs]at c2
   rw[←hi0]at HI hil⊢
   rw[←hl0]at HLa⊢
   have hqs2:=yH hqs
   clear hqs hi0 hl0
   by_cases he:qs=slot
   ·have d1:((qs:Int)==(slot:Int))=true:=by simp[he]
    rw[if_pos (hqs2.out▸he)]at HI HLa
    clear he
    go_wp2
    go_roundw
    case rel=>exact⟨k+1,by omega,by go_num,by rw[HT.out,HI.out];go_num,by rw[HT.out,HLa.out],trivial⟩
    case measure=>simp[intOf];omega
   ·have d1:((qs:Int)==(slot:Int))=false:=by simp;omega
    rw[if_neg (fun e=>he (hqs2.out▸e))]at HI HLa
    clear he
    go_wp2
    go_roundw
    case rel=>exact⟨k+1,by omega,by go_num,by rw[HT.out,HI.out];rfl,by rw[HT.out,HLa.out],trivial⟩
    case measure=>simp[intOf];omega
  ·obtain rfl:k=len:=by omega
   rw[←HL.out,List.take_length]
   obtain⟨i0,hi0⟩: ∃x,x=inSlot ks slot:=⟨_,rfl⟩
   obtain⟨l0,hl0⟩: ∃x,x=lastIn ks slot:=⟨_,rfl⟩
   rw[←hi0,←hl0]
   have hin:l0+32≤n∨i0=0:=by
    rcases Nat.eq_zero_or_pos i0 with h|h
    ·exact .inr h
    ·left
     obtain⟨q,hq1,hq2⟩:=lastIn_mem (l:=ks) (slot:=slot) (by omega)
     rw[hl0,hq2]
     exact HA.out q hq1
   have hile:i0≤ks.length:=by rw[hi0];exact inSlot_le _ _
   rw[HL.out]at hile
   have HI:=yH hi0
   have HLa:=yH hl0
   clear hi0 hl0
   by_cases h0:i0=0
   ·have HE:=yH (show hung l ks table a slot=put8 (put8 l (table+16*slot) a) (table+16*slot+8) a by unfold hung;rw[←HI.out,if_pos h0])
    subst h0
    clear hin hile
    go_wp2_with(first|(go_at_call 104;(with_reducible refine Calls.mono (put_at g bb cb n (table+16*slot) _ (by omega) cs T l a B _ HS.out H3.out HB.out hne (by omega) hn) ?_);rintro e w1 ⟨rfl,ho1,hp1⟩;have HO1:=yH ho1;have HP1:=yH hp1;clear ho1 hp1)|(go_at_call 104;(refine Calls.mono (put_at g bb cb n (table+16*slot+8) _ (by omega) cs T _ a B _ (blk_keptF HS.out HP1.out.kept hne) H3.out HO1.out hne (by omega) hn) ?_);rintro e w2 ⟨rfl,ho2,hp2⟩;have HO2:=yH ho2;have HP2:=yH hp2;clear ho2 hp2)|fail)
    go_ret
    exact⟨by rw[←HI.out];rfl,by rw[HE.out];exact HO2.out,HP1.out.trans HP2.out⟩
   ·have d0:((i0:Int)==0)=false:=by simp;omega
    have hin2:l0+32≤n:=by omega
    have HE:=yH (show hung l ks table a slot=put8 (put8 l (l0+24) a) (table+16*slot+8) a by unfold hung;rw[←HI.out,if_neg h0,←HLa.out])
    clear hin h0
    go_wp2_with(first|(go_at_call 104;(with_reducible refine Calls.mono (put_at g bb cb n (l0+24) _ (by omega) cs T l a B _ HS.out H3.out HB.out hne (by omega) hn) ?_);rintro e w1 ⟨rfl,ho1,hp1⟩;have HO1:=yH ho1;have HP1:=yH hp1;clear ho1 hp1)|(go_at_call 104;(refine Calls.mono (put_at g bb cb n (table+16*slot+8) _ (by omega) cs T _ a B _ (blk_keptF HS.out HP1.out.kept hne) H3.out HO1.out hne (by omega) hn) ?_);rintro e w2 ⟨rfl,ho2,hp2⟩;have HO2:=yH ho2;have HP2:=yH hp2;clear ho2 hp2)|fail)
    go_ret
    exact⟨by rw[←HI.out];rfl,by rw[HE.out];exact HO2.out,HP1.out.trans HP2.out⟩
end Me
namespace Fb
open Bytes8 Blk8
def Grew (w w':World):Prop:= ∃q os,w'=Sort.grow (w.drewN q) os
theorem Grew.refl (w:World):Grew w w:=⟨0,#[],by rw[Sort.grow_empty];rfl⟩
theorem Grew.alloc {w w':World}(h:Grew w w')(o:Obj):Grew w (w'.alloc o):=by
 obtain⟨q,os,rfl⟩:=h
 exact⟨q,os++ #[o],by rw[Sort.alloc_eq_grow,Sort.grow_grow]⟩
theorem Grew.drew {w w':World}(h:Grew w w'):Grew w w'.drew:=by
 obtain⟨q,os,rfl⟩:=h
 exact⟨q+1,os,rfl⟩
theorem Grew.drewN {w w':World}(h:Grew w w')(n:Nat):Grew w (w'.drewN n):=by
 obtain⟨q,os,rfl⟩:=h
 refine⟨q+n,os,?_⟩
 simp only[Sort.grow,World.drewN,Nat.add_assoc]
theorem Grew.trans {a b c:World}(h:Grew a b)(k:Grew b c):Grew a c:=by
 obtain⟨q,os,rfl⟩:=h
 obtain⟨q',os',rfl⟩:=k
 refine⟨q+q',os++os',?_⟩
 simp only[Sort.grow,World.drewN,Nat.add_assoc,Array.append_assoc]
theorem Grew.below {w w':World}(h:Grew w w'):Below w.heap.size w w':=by
 obtain⟨q,os,rfl⟩:=h
 refine⟨rfl,rfl,rfl,by simp[Sort.grow,World.drewN],fun k hk=>?_⟩
 exact Sort.heap_grow_old (w.drewN q) os hk
theorem Grew.boxed (w:World)(o:Obj):Grew w (w.alloc o):=(Grew.refl w).alloc o
end Fb
namespace Fc
open Bytes8 Blk8 Fa Fb
theorem text_conv (l:List Int)(hA:AllB l): ∃(cf:World→Nat) (mk:World→World),∀w,
 (convert 9 24 (.string (T l))).run Tryz.prog w= .ok (.slice (some ⟨w.heap.size,0,none⟩) l.length (cf w)) (mk w)∧(∀g,w.heap.size=g→Bytes (mk w) (some ⟨g,0,none⟩) l)∧Grew w (mk w):=by
 refine⟨fun w=>grownCap w (T l).size 0 5,fun w=>w.drew.alloc (.cells (bytesRow (T l) (grownCap w (T l).size 0 5)) 5 ((bytesRow (T l) (grownCap w (T l).size 0 5)).size,(bytesRow (T l) (grownCap w (T l).size 0 5)).size+1)),fun w=>⟨?_,?_,?_⟩⟩
 ·rw[run_bytes_of_string w 9 24 5 (T l) Tryz.underlying9 Tryz.underlying24 Tryz.underlying5,T_size]
 ·rintro g rfl
  refine⟨hA,fun i hi=>⟨w.heap.size,0,rfl,by simp,?_⟩⟩
  rw[Nat.zero_add]
  show(w.drew.alloc (.cells _ _ _)).cell? ⟨w.drew.heap.size,i,none⟩=_
  rw[World.cell?_alloc_mark]
  have hd:i<(T l).data.size:=by
   have:=T_size l
   show i<(T l).size
   omega
  refine(bytesRow_at (T l) _ i hd).trans ?_
  have e1:(T l).data[i]=(T l).toList[i]'(by rw[ByteArray.toList_eq];simpa using hd):=by simp only[ByteArray.toList_eq];rfl
  rw[e1]
  simp only[T_toList,List.getElem_map]
  have hv:=hA l[i] (List.getElem_mem hi)
  have e3:l.getD i 0=l[i]:=by simp[List.getElem?_eq_getElem hi]
  rw[e3]
  have e4:(((l[i]).toNat.toUInt8.toNat:Nat):Int)=l[i]:=by simp;omega
  rw[e4]
 ·exact((Grew.refl w).drew).alloc _
end Fc
end Go.Proofs.YtiddkgcafpaekaaGreat
