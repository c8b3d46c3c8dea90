/-
  Texts beneath the proof.
-/
import Derived.Sort.Grow
import Derived.Test.YtlelnfokffflnaaGreatQl14
set_option linter.unusedVariables false
set_option linter.unusedSimpArgs false
set_option maxRecDepth 100000
set_option maxHeartbeats 8000000
open Go.ChangeShapes Go.WideShapes Go.ChangeAt Go.RowKit
namespace Go.Proofs.YtlelnfokffflnaaGreat
namespace Yn
open Bytes8 Blk8 Own8 OwnE Dc Ob Rows2 Kf Yc Yp Yd Ye Yg Yh Yi Yl
theorem aAD:(Tryz.prog.info? 179).map (·.size)=some 21:=by kernel_rfl
theorem aMF:Elt 175 169 2 16 (.agg #[.int .u64 0,.int .u64 0]):=⟨Tryz.underlying169,by kernel_rfl,rfl,by decide⟩
theorem wpList_build_as {P:Program}{c:Array Oper}{rest:List Oper}{o:Oper}{a:Act}{w:World}{Q:Exit→Act→World→Prop}(f:o.guard=none)(t:TypeId)(b:Array (Nat×Operand))(g:o.op= .build t b)(cells:Array Value)
 (d:P.built t (b.map fun(i,x)=>(i,a.eval x)).toList=some cells)(h:wpList P c Q rest (a.put o.dst (.agg cells)) w):wpList P c Q (o::rest) a w:=
 wpList_build f t b g (by rw[d];rfl) (by rw[d];exact h)
def Kp (bd:List Int)(j:Nat)(i:Nat):Int:=if i<j then itK bd i else 0
theorem aPG (b:List Int)(j:Nat)(d:j<16)(s r m x:Int)(A:Option Addr)(n c:Nat):(entL s r m (Kp b j) x A n c).set (3+j) (.int .u8 (itK b j))=entL s r m (Kp b (j+1)) x A n c:=by
 rcases j with _|_|_|_|_|_|_|_|_|_|_|_|_|_|_|_|j
 all_goals first|rfl|omega
theorem aPH (b:List Int)(s r m x:Int)(A:Option Addr)(n c:Nat):entL s r m (Kp b 16) x A n c=entL s r m (itK b) x A n c:=rfl
theorem ent_cell {w:World}{g:Nat}{T:TypeId}{s r m x:Int}{K:Nat→Int}{A:Option Addr}{n c:Nat}(h:Blk w g (entL s r m K x A n c) T)(j:Nat)(d:j<16): ∃u,w.cell? ⟨g,3+j,none⟩=some u:=by
 have b:(entL s r m K x A n c).length=21:=rfl
 exact⟨(entL s r m K x A n c)[3+j],h.cell (List.getElem?_eq_getElem (by omega))⟩
theorem aF1 (A:Option Addr)(l:List Int)(n V a:Nat)(w:World)(Z:Bytes w A l)(hL:l.length=n)(hn:n≤1000000)(hc:n≤V)(aE:V≤maxLen)(ha:a≤18446744073709551615):
 Calls Tryz.prog 151 #[.slice A n V,.int .u64 (a:Int)] w (EntTold2 l a w):=by
 have b0:=yH ((Below.refl w.heap.size w).alloc (yR _) (zC 179))
 have R0:=yH (show Blk (w.alloc (zC 179)) w.heap.size zL 179 from Blk.new w zL _)
 have X:=yH (aKg A l n V a 3 (w.alloc (zC 179)) (Z.below b0.out (yR _)) hL hn hc aE ha)
 unfold Rbodied at X
 have N:=yH (aDJ (a:=a) Z.1)
 have x:entC0 l a=if ecode l a 3 48 16≠0 then ecode l a 3 48 16 else if u8 (bodyL l a) 0=0 then 13 else if risB (itA (bodyL l a)) (itN (bodyL l a))then 0 else 11:=rfl
 have hr:=aKf l a 3 48 16
 have Y:=yH (aHg (l:=l) (a:=a))
 by_cases h1:rcode l a 3≠0
 ·rw[if_pos h1]at hr
  rw[hr,if_pos h1]at x
  have f:=yH x
  have d:=yH (Y.out (by rw[x];exact h1))
  clear x Z hL hr
  generalize rcode l a 3=aP at*
  go_enter Tryz.func151,Tryz.ntmps151
  go_wp2_with(first
   |(go_at_call 153;(with_reducible refine X.out.mono ?_);rintro e w2 ⟨B,m,cb,rfl,k,_⟩;have H:=yH (R0.out.below k R0.out.lt);have r:=yH (b0.out.trans (k.mono b0.out.size));clear k)
   |(refine wpList_store_row rfl 179 (.tmp 4) (.tmp 20) rfl w.heap.size _ rfl rfl 179 _ H.out aAD rfl aCt ?_))
  refine bodyPost_ret (v:= .tuple #[entV 0 0 0 (fun _=>0) 0 none 0 0,.int .i64 aP]) (by exact aAr Tryz.results151 _ _ w.heap.size 179 _ (0,0) _ _ rfl rfl (Blk.setRow H.out zL) Tryz.underlying179 rfl aAD) rfl ?_
  unfold EntTold2
  rw[d.out.1,d.out.1,d.out.1,d.out.1,d.out.2.1,d.out.2.2,f.out]
  exact⟨none,0,rfl,aAi r.out (yR _) _,aBh _ _ _ _,fun b g e=>by cases e⟩
 have h0:rcode l a 3=0:=by omega
 rw[if_neg h1]at hr
 rw[h0]at X
 have am:entC0 l a=0→eNum l a 0=u8 (bodyL l a) 0∧eNum l a 8=u8 (bodyL l a) 8∧eNum l a 16=u8 (bodyL l a) 16∧eNum l a 40=u8 (bodyL l a) 40∧eK l a=itK (bodyL l a)∧eN l a=itN (bodyL l a):=fun h=>by
  obtain⟨t1,t2,t3⟩:=aFe h
  exact⟨t1 0,t1 8,t1 16,t1 40,t2,t3⟩
 have aU:=yH am
 have s:=yH fun(i:Nat) (z:Int) (B:Option Addr) (m cb:Nat) (W:World) (hB:Bytes W B (bodyL l a)) (hm:(bodyL l a).length=m) (hm2:m≤1000000) (hz:z=(i:Int)) (hi:i+8≤m)=>ru_z B (bodyL l a) m cb i z W hB hm hm2 hi hz
 have av:=yH x
 have ao:=yH hr
 have aS:=yH (show itN (bodyL l a)=((bodyL l a).length-48)/16 from rfl)
 clear x Z hL h1 h0 hr am
 generalize aa:bodyL l a=c at*
 have aH:=yH aa
 clear aa
 go_enter Tryz.func151,Tryz.ntmps151
 go_upto_region 4 with(go_at_call 153;(with_reducible refine X.out.mono ?_);rintro e w2 ⟨B,m,cb,rfl,k,aj⟩)
 obtain⟨d1,d2,d5⟩:=aj (by first|rfl|trivial)
 have H:=yH (R0.out.below k R0.out.lt)
 have r:=yH (b0.out.trans (k.mono b0.out.size))
 have D1:=yH d1
 have y:=yH d2
 clear d1 d2 k aj
 have af:=y.out
 by_cases E:m<64∨m%16≠0
 ·have ag:=ao.out.trans (if_pos (by rw[y.out];omega))
  have f:=yH (show entC0 l a=5 by rw[av.out,ag];rfl)
  have d:=yH (Y.out (by rw[f.out];decide))
  clear ag
  by_cases a4:m<64
  ·have e1:(m:Int)<64:=by omega
   clear af E
   go_wp2_with(refine wpList_store_row rfl 179 (.tmp 4) (.tmp 31) rfl w.heap.size _ rfl rfl 179 _ H.out aAD rfl aCt ?_)
   refine bodyPost_ret (v:= .tuple #[entV 0 0 0 (fun _=>0) 0 none 0 0,.int .i64 5]) (by exact aAr Tryz.results151 _ _ w.heap.size 179 _ (0,0) _ _ rfl rfl (Blk.setRow H.out zL) Tryz.underlying179 rfl aAD) rfl ?_
   unfold EntTold2
   rw[d.out.1,d.out.1,d.out.1,d.out.1,d.out.2.1,d.out.2.2,f.out]
   exact⟨none,0,rfl,aAi r.out (yR _) _,aBh _ _ _ _,fun b g e=>by cases e⟩
  ·have e1: ¬(m:Int)<64:=by omega
   obtain⟨R,hR⟩: ∃R:Int,R=((m%16:Nat):Int):=⟨_,rfl⟩
   have e2:(m:Int).tmod 16=R:=by rw[Int.tmod_eq_emod_of_nonneg (by omega),hR];omega
   have aV:(m:Int)%16=R:=by rw[hR];omega
   have e3:(R==0)=false:=by simp;omega
   have e4:(R !=0)=true:=by simp;omega
   have e5: ¬R=0:=by omega
   clear af E hR
   go_wp2_with(refine wpList_store_row rfl 179 (.tmp 4) (.tmp 31) rfl w.heap.size _ rfl rfl 179 _ H.out aAD rfl aCt ?_)
   refine bodyPost_ret (v:= .tuple #[entV 0 0 0 (fun _=>0) 0 none 0 0,.int .i64 5]) (by exact aAr Tryz.results151 _ _ w.heap.size 179 _ (0,0) _ _ rfl rfl (Blk.setRow H.out zL) Tryz.underlying179 rfl aAD) rfl ?_
   unfold EntTold2
   rw[d.out.1,d.out.1,d.out.1,d.out.1,d.out.2.1,d.out.2.2,f.out]
   exact⟨none,0,rfl,aAi r.out (yR _) _,aBh _ _ _ _,fun b g e=>by cases e⟩
 have aq:=ao.out.trans (if_neg (by rw[y.out];omega))
 have I:=av.out
 rw[aq,if_neg (by decide)]at I
 have aw:=yH I
 obtain⟨t,ht⟩: ∃t,m=48+16*t:=⟨(m-48)/16,by omega⟩
 subst ht
 have ak:itN c=t:=by rw[aS.out,y.out];omega
 have ar:=yH ak
 have a5:1≤t:=by omega
 have e1: ¬((48+16*t:Nat):Int)<64:=by omega
 have e2:((48+16*t:Nat):Int).tmod 16=0:=by rw[Int.tmod_eq_emod_of_nonneg (by omega)];omega
 have aV:((48+16*t:Nat):Int)%16=0:=by omega
 have G:=yH H.out.lt
 clear af E ak aq I
 go_upto_region 7 with(first
  |(go_at_call 94;(first|(with_reducible refine(s.out 0 0 _ _ _ _ D1.out y.out (by omega) rfl (by omega)).mono ?_)|(with_reducible refine(s.out 8 8 _ _ _ _ D1.out y.out (by omega) rfl (by omega)).mono ?_)|(with_reducible refine(s.out 16 16 _ _ _ _ D1.out y.out (by omega) rfl (by omega)).mono ?_)|(with_reducible refine(s.out 40 40 _ _ _ _ D1.out y.out (by omega) rfl (by omega)).mono ?_));rintro e w' ⟨rfl,rfl⟩)
  |(refine wpList_build_as rfl 179 _ rfl #[.int .u64 (u8 c 0),.int .u64 (u8 c 8),.int .u64 (u8 c 16),.int .u8 0,.int .u8 0,.int .u8 0,.int .u8 0,.int .u8 0,.int .u8 0,.int .u8 0,.int .u8 0,.int .u8 0,.int .u8 0,.int .u8 0,.int .u8 0,.int .u8 0,.int .u8 0,.int .u8 0,.int .u8 0,.int .u64 (u8 c 40),.slice none 0 0] (by kernel_rfl) ?_)
  |(refine wpList_store_row rfl 179 (.tmp 8) (.tmp 40) rfl w2.heap.size #[.int .u64 (u8 c 0),.int .u64 (u8 c 8),.int .u64 (u8 c 16),.int .u8 0,.int .u8 0,.int .u8 0,.int .u8 0,.int .u8 0,.int .u8 0,.int .u8 0,.int .u8 0,.int .u8 0,.int .u8 0,.int .u8 0,.int .u8 0,.int .u8 0,.int .u8 0,.int .u8 0,.int .u8 0,.int .u64 (u8 c 40),.slice none 0 0] rfl rfl 179 zL.toArray (Blk.new w2 zL 179) aAD rfl (by simp[Value.oneCell']) ?_))
 have X0:=yH (show Blk ((w2.alloc (zC 179)).setRow w2.heap.size #[.int .u64 (u8 c 0),.int .u64 (u8 c 8),.int .u64 (u8 c 16),.int .u8 0,.int .u8 0,.int .u8 0,.int .u8 0,.int .u8 0,.int .u8 0,.int .u8 0,.int .u8 0,.int .u8 0,.int .u8 0,.int .u8 0,.int .u8 0,.int .u8 0,.int .u8 0,.int .u8 0,.int .u8 0,.int .u64 (u8 c 40),.slice none 0 0]) w2.heap.size (entL (u8 c 0) (u8 c 8) (u8 c 16) (Kp c 0) (u8 c 40) none 0 0) 179 from Blk.setRow (show Blk (w2.alloc (zC 179)) w2.heap.size zL 179 from Blk.new w2 zL _) (entL (u8 c 0) (u8 c 8) (u8 c 16) (fun _=>0) (u8 c 40) none 0 0))
 have BX:=yH (show Below w2.heap.size w2 ((w2.alloc (zC 179)).setRow w2.heap.size #[.int .u64 (u8 c 0),.int .u64 (u8 c 8),.int .u64 (u8 c 16),.int .u8 0,.int .u8 0,.int .u8 0,.int .u8 0,.int .u8 0,.int .u8 0,.int .u8 0,.int .u8 0,.int .u8 0,.int .u8 0,.int .u8 0,.int .u8 0,.int .u8 0,.int .u8 0,.int .u8 0,.int .u8 0,.int .u64 (u8 c 40),.slice none 0 0])from aAi ((Below.refl w2.heap.size w2).alloc (yR _) _) (yR _) _)
 generalize (w2.alloc (zC 179)).setRow w2.heap.size #[.int .u64 (u8 c 0),.int .u64 (u8 c 8),.int .u64 (u8 c 16),.int .u8 0,.int .u8 0,.int .u8 0,.int .u8 0,.int .u8 0,.int .u8 0,.int .u8 0,.int .u8 0,.int .u8 0,.int .u8 0,.int .u8 0,.int .u8 0,.int .u8 0,.int .u8 0,.int .u8 0,.int .u8 0,.int .u64 (u8 c 40),.slice none 0 0]=w3 at*
 have RX:=yH (H.out.below BX.out G.out)
 have WX:=yH (r.out.trans (BX.out.mono r.out.size))
 have x0:=X0.out.cell (i:=0) rfl
 obtain⟨s0,az⟩: ∃s0,s0=u8 c 0:=⟨_,rfl⟩
 by_cases hz:u8 c 0=0
 ·have f:=yH (aw.out.trans (if_pos hz))
  have d:=yH (Y.out (by rw[f.out];decide))
  rw[hz]at x0
  clear az
  go_wp2_with(refine wpList_store_row rfl 179 (.tmp 4) (.tmp 44) rfl w.heap.size _ rfl rfl 179 _ RX.out aAD rfl aCt ?_)
  refine bodyPost_ret (v:= .tuple #[entV 0 0 0 (fun _=>0) 0 none 0 0,.int .i64 13]) (by exact aAr Tryz.results151 _ _ w.heap.size 179 _ (0,0) _ _ rfl rfl (Blk.setRow RX.out zL) Tryz.underlying179 rfl aAD) rfl ?_
  unfold EntTold2
  rw[d.out.1,d.out.1,d.out.1,d.out.1,d.out.2.1,d.out.2.2,f.out]
  exact⟨none,0,rfl,aAi WX.out (yR _) _,aBh _ _ _ _,fun b g e=>by cases e⟩
 have J:=aw.out.trans (if_neg hz)
 rw[ar.out]at J
 have au:=yH J
 have bh:(u8 c 0==0)=false:=by simpa using hz
 obtain⟨b,g,rfl,aT,D⟩:=D1.out.spot (by rw[y.out];omega)
 have aB:=yH D
 clear J D az
 go_wp2_with fail
 go_loopw [9] (fun i wr=> ∃j:Nat,j≤16∧i= .int .i64 (j:Int)∧Hid (Blk wr w2.heap.size (entL (u8 c 0) (u8 c 8) (u8 c 16) (Kp c j) (u8 c 40) none 0 0) 179)∧Hid (Below w2.heap.size w2 wr)) (fun i _=>16-(intOf i).toNat)
 case atStart=>exact⟨0,by omega,rfl,X0,BX⟩
 case round=>
  obtain⟨j,hj,rfl,hx,M⟩:=hrel
  by_cases hlt:j<16
  ·have aL:=(M.out.cell (p:=⟨b,g+(24+j),none⟩) aT).trans (aB.out (24+j) (by rw[y.out];omega))
   obtain⟨u,hu⟩:=ent_cell hx.out j hlt
   have a8:=hx.out.frozen (3+j)
   have ax:c.getD (24+j) 0=itK c j:=(if_pos hlt).symm
   rw[ax]at aL
   have aM:=yH (show Blk (wr.setCell ⟨w2.heap.size,3+j,none⟩ (.int .u8 (itK c j))) w2.heap.size (entL (u8 c 0) (u8 c 8) (u8 c 16) (Kp c (j+1)) (u8 c 40) none 0 0) 179 from aPG c j hlt (u8 c 0) (u8 c 8) (u8 c 16) (u8 c 40) none 0 0▸hx.out.set_ (3+j) (.int .u8 (itK c j)))
   have bb:(0:Int)≤(j:Int):=by omega
   have F:(j:Int)<16:=by omega
   generalize itK c j=kv at*
   clear ax
   go_wp2
   go_roundw
   case rel=>exact⟨j+1,by omega,by go_num,aM,yH (M.out.setCell (yR _) _)⟩
   case measure=>simp[intOf];omega
  ·have F:j=16:=by omega
   have ba: ¬(j:Int)<16:=by omega
   have ac:=hx.out
   rw[F,aPH]at ac
   clear F
   have al:=yH ac
   have aC:=yH M.out
   clear hx ac M X0 BX RX WX x0
   rename World=>wA
   go_wp2_with fail
   go_loopw [10] (fun i wr=> ∃(q:Nat) (C:Option Addr) (L:Nat),q≤t∧i= .int .i64 ((48+16*q:Nat):Int)∧Hid (Blk wr w2.heap.size (entL (u8 c 0) (u8 c 8) (u8 c 16) (itK c) (u8 c 40) C q L) 179)∧Hid (OwnE 175 2 wr (w2.heap.size+1) C q L (two (itA c) (itH c) q))∧Hid (risB (itA c) q=true)∧Hid (Below w2.heap.size w2 wr)) (fun i _=>48+16*t-(intOf i).toNat)
   case atStart=>exact⟨0,none,0,Nat.zero_le _,rfl,al,OwnE.nil _ _ (Nat.succ_le_of_lt al.out.lt),yH rfl,aC⟩
   case round=>
    obtain⟨q,C,L,hq,rfl,he,ho,ab,Z⟩:=hrel
    have aA:=he.out.cell (i:=20) rfl
    have RX:=yH (H.out.below Z.out G.out)
    have WX:=yH (r.out.trans (Z.out.mono r.out.size))
    by_cases hlt:q<t
    ·have Dr:=yH (D1.out.below Z.out (yR _)).drew
     have aW:=yH (aMC (itA c) (itH c) q)
     have aI:=yH (show itA c q=u8 c (48+16*q)from rfl)
     have aY:=yH (show itH c q=u8 c (48+16*q+8)from rfl)
     have ai:=yH (show Blk (wr.alloc (.cells #[.int .u64 (u8 c (48+16*q)),.int .u64 (u8 c (48+16*q+8))] 175)).drew wr.heap.size [.int .u64 (u8 c (48+16*q)),.int .u64 (u8 c (48+16*q+8))] 175 from Blk.new wr _ _)
     have aR:=he.out.lt
     have Na:=yH ((Below.refl wr.heap.size wr).alloc (yR _) (.cells #[.int .u64 (u8 c (48+16*q)),.int .u64 (u8 c (48+16*q+8))] 175)).drew
     have u1:wr.drew.cell? ⟨w2.heap.size,20,none⟩=some (.slice C q L):=aA
     have v1:=(Na.out.cell (p:=⟨w2.heap.size,20,none⟩) aR).trans aA
     have a0:((48+16*q:Nat):Int)<((48+16*t:Nat):Int):=by omega
     have aG:IntKind.u64.wrap (48+16*(q:Int))=48+16*(q:Int):=by rw[IntKind.wrap_u64];omega
     have aZ:IntKind.i64.wrap (48+16*(q:Int)+8)=48+16*(q:Int)+8:=by rw[IntKind.wrap_i64];omega
     have ah:IntKind.u64.wrap (48+16*(q:Int)+8)=48+16*(q:Int)+8:=by rw[IntKind.wrap_u64];omega
     go_wp2_with fail
     have bc:=ab
     go_cut [10]from 66 to 79 (fun z wx=> ∃(A2:Option Addr) (c2:Nat),z= .int .i64 ((48+16*q:Nat):Int)∧Hid (Blk wx w2.heap.size (entL (u8 c 0) (u8 c 8) (u8 c 16) (itK c) (u8 c 40) A2 (q+1) c2) 179)∧Hid (OwnE 175 2 wx (w2.heap.size+1) A2 (q+1) c2 (two (itA c) (itH c) (q+1)))∧Hid (Below w2.heap.size w2 wx))
     case first=>
      go_region_law (first
       |(refine aBT aMF (o:=⟨some 79,_,_,_,_,_⟩) rfl (.tmp 67) (.tmp 78) rfl (w2.heap.size+1) C q L _ rfl ((ho.out.alloc (.cells #[.int .u64 (u8 c (48+16*q)),.int .u64 (u8 c (48+16*q+8))] 175)).drew) ⟨wr.heap.size,0,none⟩ 1 1 [.int .u64 (u8 c (48+16*q)),.int .u64 (u8 c (48+16*q+8))] rfl rfl (Blk.news ai.out) (by intro u hu;simp at hu;rcases hu with rfl|rfl<;>rfl) (by omega) (by omega) ?_;intro A2 c2 w4 ae an;rw[←aI.out,←aY.out,←aW.out]at ae;have aO:=yH ae;have ap:=((Below.refl wr.heap.size wr).alloc (yR _) (.cells #[.int .u64 (u8 c (48+16*q)),.int .u64 (u8 c (48+16*q+8))] 175)).drew;have ad:=Below.trans (ap.mono (by omega:w2.heap.size+1≤wr.heap.size)) an;have aQ:=yH (Z.out.trans (ad.mono (Nat.le_succ _)));have E4:=yH (he.out.below ad (Nat.lt_succ_self _));have x1:=E4.out.cell (i:=20) rfl;have y1:=E4.out.frozen 20;clear ae an ap ad)
       |(go_simp;go_at_call 94;(first|(with_reducible refine(s.out (48+16*q) _ _ _ _ _ Dr.out y.out (by omega) (by omega) (by omega)).mono ?_)|(with_reducible refine(s.out (48+16*q+8) _ _ _ _ _ Dr.out y.out (by omega) (by omega) (by omega)).mono ?_));rintro e w' ⟨rfl,rfl⟩))
      all_goals
       go_wp2_with fail
       go_meet
       case rel=>exact⟨A2,c2,rfl,yH (E4.out.set_ 20 _),yH (OwnE.farE aO.out (by simp) _),yH (aQ.out.setCell (yR _) _)⟩
     case rest=>
      rename World=>W5
      obtain⟨A2,c2,rfl,E5,O5,B5⟩:=hcut
      clear u1 v1 aG aZ ah Na ai Dr
      have R5:=yH (H.out.below B5.out.drew G.out)
      have aK:=yH (r.out.trans (B5.out.drew.mono r.out.size))
      have a7:W5.drew.cell? ⟨w2.heap.size,20,none⟩=some (.slice A2 (q+1) c2):=E5.out.cell (i:=20) rfl
      rcases Nat.eq_zero_or_pos q with ay|ay
      ·subst ay
       go_wp2_with fail
       go_region
       all_goals
        go_wp2
        go_roundw
        case rel=>exact⟨1,A2,c2,by omega,by go_num,yH E5.out.drew,yH O5.out.drew,yH rfl,yH B5.out.drew⟩
        case measure=>simp[intOf];omega
      ·obtain⟨p,rfl⟩: ∃p,q=p+1:=⟨q-1,by omega⟩
       have hI:=own_in2 O5.out.drew (fun i _=>aCE N.out _) (fun i _=>aCE N.out _)
       obtain⟨g5,o5,ea,a6,k1,_⟩:=hI (p+1) (by omega)
       obtain⟨g6,o6,eb,_,k2,_⟩:=hI p (by omega)
       rw[ea]at eb
       simp at eb
       obtain⟨rfl,rfl⟩:=eb
       subst ea
       have hs:=aGU (itA c) (p+1) (by omega)
       rw[ab.out,Bool.true_and]at hs
       have hg:decide ((0:Int)<((p+1:Nat):Int))=true:=decide_eq_true (by omega)
       have a3:(0:Int)<((p+1:Nat):Int):=by omega
       have hw:IntKind.i64.wrap (((p+1:Nat):Int)-1)=(p:Int):=by rw[IntKind.wrap_i64];omega
       have a9:((p+1:Nat):Int)-1=(p:Int):=by omega
       have a1:(0:Int)≤(p:Int):=by omega
       have a2:(p:Int)<((p+1+1:Nat):Int):=by omega
       have bg:((p+1:Nat):Int)<((p+1+1:Nat):Int):=by omega
       by_cases bf:itA c (p+1)≤itA c p
       ·have hf:risB (itA c) t=false:=by
         cases hq:risB (itA c) t with
         |false=>rfl
         |true=>
          have h3:=aGV (m:=p+2) hq (by omega)
          rw[hs]at h3
          have h4:itA c p<itA c (p+1):=by simpa using h3
          omega
        have f:=yH (au.out.trans (if_neg (by rw[hf];decide)))
        have d:=yH (Y.out (by rw[f.out];decide))
        clear hs hf hI
        go_wp2_with fail
        go_region
        all_goals
         go_wp2_with(refine wpList_store_row rfl 179 (.tmp 4) (.tmp 99) rfl w.heap.size _ rfl rfl 179 _ R5.out aAD rfl aCt ?_)
         refine bodyPost_ret (v:= .tuple #[entV 0 0 0 (fun _=>0) 0 none 0 0,.int .i64 11]) (by exact aAr Tryz.results151 _ _ w.heap.size 179 _ (0,0) _ _ rfl rfl (Blk.setRow R5.out zL) Tryz.underlying179 rfl aAD) rfl ?_
         unfold EntTold2
         rw[d.out.1,d.out.1,d.out.1,d.out.1,d.out.2.1,d.out.2.2,f.out]
         exact⟨none,0,rfl,aAi aK.out (yR _) _,aBh _ _ _ _,fun b g e=>by cases e⟩
       ·have aF:=yH (show risB (itA c) (p+2)=true by rw[hs];exact decide_eq_true (show itA c (p+1-1)<itA c (p+1)by rw[Nat.add_sub_cancel];omega))
        clear hs hI
        go_wp2_with fail
        go_region
        all_goals
         go_wp2
         go_roundw
         case rel=>exact⟨p+2,some ⟨g5,o5,none⟩,c2,by omega,by go_num,yH E5.out.drew,yH O5.out.drew,aF,yH B5.out.drew⟩
         case measure=>simp[intOf];omega
    ·obtain rfl:q=t:=by omega
     have f:=yH (au.out.trans (if_pos ab.out))
     have d:=yH (aU.out f.out)
     have HI:=yH (own_in2 ho.out (fun i _=>aCE N.out _) (fun i _=>aCE N.out _))
     have aJ:=yH (fun b g (e:C=some ⟨b,g,none⟩)=>show b≠w.heap.size by
      have h1:=Dc.OwnE.ltB ho.out b (by rw[e];rfl)
      have h2:=G.out
      omega)
     have aD:=yH (fun b g (e:C=some ⟨b,g,none⟩)=>show w.heap.size≤b by
      have h1:=Dc.OwnE.ltB ho.out b (by rw[e];rfl)
      have h2:=G.out
      omega)
     go_wp2_with(first
      |(refine wpList_load_row rfl 179 (.tmp 8) rfl w2.heap.size rfl 179 (entL (u8 c 0) (u8 c 8) (u8 c 16) (itK c) (u8 c 40) C q L).toArray (0,0) _ he.out Tryz.underlying179 rfl aAD ?_)
      |(refine wpList_store_row rfl 179 (.tmp 4) (.tmp 100) rfl w.heap.size (entL (u8 c 0) (u8 c 8) (u8 c 16) (itK c) (u8 c 40) C q L).toArray rfl rfl 179 _ RX.out aAD rfl (aBB _ _ _ _ _ _ _ _) ?_))
     refine bodyPost_ret (v:= .tuple #[entV (u8 c 0) (u8 c 8) (u8 c 16) (itK c) (u8 c 40) C q L,.int .i64 0]) (by exact aAr Tryz.results151 _ _ w.heap.size 179 _ (0,0) _ _ rfl rfl (Blk.setRow RX.out (entL (u8 c 0) (u8 c 8) (u8 c 16) (itK c) (u8 c 40) C q L)) Tryz.underlying179 rfl aAD) rfl ?_
     unfold EntTold2
     obtain⟨t0,t8,aN,aX,tK,tN⟩:=d.out
     rw[t0,t8,aN,aX,tK,tN,f.out,ar.out,aH.out]
     exact⟨C,L,rfl,aAi WX.out (yR _) _,In2.setRow HI.out (fun b g e=>aJ.out b g e) _,aD.out⟩
end Yn
namespace Mb
open Bytes8 Blk8 Own8 OwnE LeNum Ob Od Ma Kf
theorem aId (k:Nat)(w:World):Calls Tryz.prog 136 #[.int .i64 (k:Int)] w fun e w'=>e= .returned (.int .i64 (roomN k:Nat))∧w=w':=by
 by_cases h:6<k
 ·have b:decide ((6:Int)<(k:Int))=true:=by simp;omega
  rw[show roomN k=256 by unfold roomN;rw[if_pos h]]
  go_enter Tryz.func136,Tryz.ntmps136
  go_wp2
  go_ret
  exact⟨rfl,rfl⟩
 ·rcases k with _|_|_|_|_|_|_|k
  all_goals first
   |omega
   |(go_enter Tryz.func136,Tryz.ntmps136
     go_wp2
     go_ret
     exact⟨rfl,rfl⟩)
theorem aOu {w:World}{base g n c:Nat}{l:List Int}(h:Own w base (some ⟨g,0,none⟩) n c l)(i:Nat){x:Int}(b:0≤x)(d:x<256):Own (w.setCell ⟨g,i,none⟩ (.int .u8 x)) base (some ⟨g,0,none⟩) n c (l.set i x):=by
 refine⟨h.1.set i b d,by rw[List.length_set];exact h.2.1,by simpa using h.2.2.1,?_⟩
 have:=(h.2.2.2.stored i (.int .u8 x)).1
 rw[List.map_set]
 exact this
theorem aEI {w:World}{base g n c:Nat}{l:List Int}(h:Own w base (some ⟨g,0,none⟩) n c l):base≤g∧g<w.heap.size:=h.lt g rfl
structure Put8 (bb:Nat)(w w':World):Prop where
 kept:KeptF (One bb) w w'
 size:w'.heap.size=w.heap.size
theorem Put8.refl (b:Nat)(w:World):Put8 b w w:=⟨KeptF.refl _ _,rfl⟩
theorem Put8.set {b:Nat}{w0 w:World}(h:Put8 b w0 w)(i:Nat)(u:Value):Put8 b w0 (w.setCell ⟨b,i,none⟩ u):=⟨h.kept.setCell (p:=⟨b,i,none⟩) (fun _=>(rfl:b=b)) u,by simpa using h.size⟩
theorem Put8.trans {d:Nat}{a b c:World}(h:Put8 d a b)(k:Put8 d b c):Put8 d a c:=⟨h.kept.trans k.kept fun _ _ h=>h,k.size.trans h.size⟩
theorem aCu {F:Nat→Prop}{w w':World}{g:Nat}{b:List Value}{T:TypeId}(h:Blk w g b T)(d:KeptF F w w')(c: ¬F g):Blk w' g b T:=(d.block g h.lt c).trans h
theorem put_any (g c cb n a:Nat)(p:List Value)(T:TypeId)(l:List Int)(v:Int)(B:Nat)(w:World)(hs:Blk w g p T)(r:p[143]? =some (.slice (some ⟨c,0,none⟩) n cb))(s:Own w B (some ⟨c,0,none⟩) n cb l)(m:g≠c)(G:a+8≤n)(D:n≤4000000):
 Calls Tryz.prog 83 #[.pointer (some ⟨g,0,none⟩),.int .u64 (a:Int),.int .u64 v] w fun e w'=>e= .returned (.tuple #[])∧Own w' B (some ⟨c,0,none⟩) n cb (put8 l a v)∧Put8 c w w':=by
 have A:=yH hs
 have t:=yH r
 have x:=yH s.2.1
 clear hs r
 go_enter Tryz.func83,Tryz.ntmps83
 go_wp2
 go_loopw [6] (fun i wr=> ∃k:Nat,k≤8∧i= .int .i64 (k:Int)∧Hid (Own wr B (some ⟨c,0,none⟩) n cb (over l a (lowB v k)))∧Hid (Put8 c w wr)) (fun i _=>8-(intOf i).toNat)
 case atStart=>exact⟨0,Nat.zero_le _,rfl,yH (by rw[show lowB v 0=[]from rfl,aMl];exact s),yH (Put8.refl _ _)⟩
 case round=>
  obtain⟨k,F,rfl,f,o⟩:=hrel
  by_cases y:k<8
  ·have E:=(aCu A.out o.out.kept m).cell t.out
   have d:=f.out.2.2.2.cellAt (a+k) (by omega)
   have C:=f.out.2.2.2.frozenAt (a+k)
   obtain⟨z,j⟩: ∃z,(over l a (lowB v k))[a+k]? =some z:=⟨_,List.getElem?_eq_getElem (by rw[f.out.2.1];omega)⟩
   rw[List.getElem?_map,j]at d
   clear j
   have b:=yH (aOu f.out (a+k) (Int.emod_nonneg (v/256^k) (by decide:(256:Int)≠0)) (Int.emod_lt_of_pos (v/256^k) (by decide)))
   rw[show(over l a (lowB v k)).set (a+k) (v/256^k%256)=over l a (lowB v (k+1))by
    have e:=aJ6 l a (lowB v k) (v/256^k%256) (by rw[aAj,x.out];omega)
    rw[aAj]at e
    rw[aDL,e]]at b
   rw[←aDK]at b
   have u:a+k<n:=by omega
   generalize q:a+k=H at*
   go_wp2
   go_roundw
   case rel=>exact⟨k+1,by omega,by go_num,b,yH (o.out.set _ _)⟩
   case measure=>simp[intOf];omega
  ·obtain rfl:k=8:=by omega
   go_wp2
   go_end0
   exact⟨rfl,f.out,o.out⟩
theorem aF2 (g b cb n a:Nat)(z:Int)(k:z=(a:Int))(c:List Value)(T:TypeId)(l:List Int)(v:Int)(B:Nat)(w:World)(hs:Blk w g c T)(j:c[143]? =some (.slice (some ⟨b,0,none⟩) n cb))(i:Own w B (some ⟨b,0,none⟩) n cb l)(d:g≠b)(m:a+8≤n)(f:n≤4000000):
 Calls Tryz.prog 83 #[.pointer (some ⟨g,0,none⟩),.int .u64 z,.int .u64 v] w fun e w'=>e= .returned (.tuple #[])∧Own w' B (some ⟨b,0,none⟩) n cb (put8 l a v)∧Put8 b w w':=by
 subst k;exact put_any g b cb n a c T l v B w hs j i d m f
end Mb
namespace Mc
open Bytes8 Blk8 Own8 OwnA OwnE Ob Od Ga Ma Kf Mb
structure Sl where
 b:Value
 d:Value
 f:Value
 m:Value
def Cf.at_ (C:Cf)(i:Nat):Value:=
 if i<48 then(if i<16 then .int .u8 (C.F i)else if i<32 then .int .u8 (C.M (i-16))else .int .u8 (C.S (i-32)))
 else if i=48 then .int .i64 (C.ds:Int)else if i=49 then .int .i64 (C.fs:Int)else if i=50 then .int .i64 (C.most:Int)else .bool C.keyed
def Mk.at_ (m:Mk)(S:Sl)(i:Nat):Value:=
 if i<142 then(if i<52 then Cf.at_ m.C i else m.h.at_ 20 (i-52))
 else if i=142 then .int .u64 (m.depth:Int)else if i=143 then S.b else if i=144 then S.d else if i=145 then S.f else S.m
def Mk.cells (m:Mk)(S:Sl):List Value:=(List.range 147).map (Mk.at_ m S)
theorem Mk.len (m:Mk)(S:Sl):(Mk.cells m S).length=147:=by simp[Mk.cells]
theorem Mk.get (m:Mk)(S:Sl)(i:Nat)(b:i<147):(Mk.cells m S)[i]? =some (Mk.at_ m S i):=by simp[Mk.cells,b]
theorem Mk.get_N (m:Mk)(S:Sl)(i:Nat)(b:i<20):(Mk.cells m S)[119+i]? =some (.int .u64 (m.h.N i)):=by
 rw[Mk.get m S _ (by omega)]
 unfold Mk.at_
 rw[if_pos (by omega),if_neg (by omega),show 119+i-52=67+i by omega]
 have:=m.h.get_N 20 i b
 rw[m.h.get 20 _ (by omega)]at this
 exact this
theorem Mk.get_depth (m:Mk)(S:Sl):(Mk.cells m S)[142]? =some (.int .u64 (m.depth:Int)):=by rw[Mk.get m S _ (by decide)];rfl
theorem Mk.get_b (m:Mk)(S:Sl):(Mk.cells m S)[143]? =some S.b:=by rw[Mk.get m S _ (by decide)];rfl
theorem Mk.get_d (m:Mk)(S:Sl):(Mk.cells m S)[144]? =some S.d:=by rw[Mk.get m S _ (by decide)];rfl
theorem Mk.get_f (m:Mk)(S:Sl):(Mk.cells m S)[145]? =some S.f:=by rw[Mk.get m S _ (by decide)];rfl
theorem Mk.get_m (m:Mk)(S:Sl):(Mk.cells m S)[146]? =some S.m:=by rw[Mk.get m S _ (by decide)];rfl
theorem Mk.get_ds (m:Mk)(S:Sl):(Mk.cells m S)[48]? =some (.int .i64 (m.C.ds:Int)):=by rw[Mk.get m S _ (by decide)];rfl
theorem Mk.get_fs (m:Mk)(S:Sl):(Mk.cells m S)[49]? =some (.int .i64 (m.C.fs:Int)):=by rw[Mk.get m S _ (by decide)];rfl
theorem Mk.get_most (m:Mk)(S:Sl):(Mk.cells m S)[50]? =some (.int .i64 (m.C.most:Int)):=by rw[Mk.get m S _ (by decide)];rfl
theorem Mk.get_F (m:Mk)(S:Sl)(i:Nat)(b:i<16):(Mk.cells m S)[i]? =some (.int .u8 (m.C.F i)):=by
 rw[Mk.get m S _ (by omega)]
 unfold Mk.at_ Cf.at_
 rw[if_pos (by omega),if_pos (by omega),if_pos (by omega),if_pos b]
abbrev fileV (C:Cf):List Value:=[.int .u8 (C.F 0),.int .u8 (C.F 1),.int .u8 (C.F 2),.int .u8 (C.F 3),.int .u8 (C.F 4),.int .u8 (C.F 5),.int .u8 (C.F 6),.int .u8 (C.F 7),.int .u8 (C.F 8),.int .u8 (C.F 9),.int .u8 (C.F 10),.int .u8 (C.F 11),.int .u8 (C.F 12),.int .u8 (C.F 13),.int .u8 (C.F 14),.int .u8 (C.F 15)]
theorem Mk.file_range {w:World}{g:Nat}{T:TypeId}{m:Mk}{S:Sl}(d:Blk w g (Mk.cells m S) T):w.rangeAt g 0 (fileV m.C):=fun j v hj=>by
 have b:j<16:=(List.getElem?_eq_some_iff.1 hj).1
 have c:=d.cell (Mk.get_F m S j b)
 have e:(fileV m.C)[j]? =some (.int .u8 (m.C.F j)):=by
  rcases j with _|_|_|_|_|_|_|_|_|_|_|_|_|_|_|_|j
  all_goals first|rfl|omega
 rw[e]at hj
 injection hj with hj
 subst hj
 rw[Nat.zero_add]
 exact c
theorem Mk.get_keyed (m:Mk)(S:Sl):(Mk.cells m S)[51]? =some (.bool m.C.keyed):=by rw[Mk.get m S _ (by decide)];rfl
theorem aBo (f b:Nat→Value)(n i:Nat)(v:Value)(k:b i=v)(g: ∀j,j≠i→b j=f j):((List.range n).map f).set i v=(List.range n).map b:=by
 apply List.ext_getElem?
 intro j
 rw[List.getElem?_set]
 by_cases c:j<n
 ·by_cases d:i=j
  ·subst d
   simp[c,k]
  ·rw[if_neg d]
   simp[c,g j (fun e=>d e.symm)]
 ·simp[c]
  omega
theorem at_N (m:Mk)(S:Sl)(i:Nat)(b:i<20):Mk.at_ m S (119+i)= .int .u64 (m.h.N i):=by
 have:=Mk.get_N m S i b
 rw[Mk.get m S _ (by omega)]at this
 injection this
theorem Mk.set_N (m:Mk)(S:Sl)(i:Nat)(g:i<20)(v:Int):(Mk.cells m S).set (119+i) (.int .u64 v)=Mk.cells {m with h:=setN m.h i v} S:=by
 refine aBo _ _ _ _ _ ?_ fun j hj=>?_
 ·rw[at_N _ _ _ g];simp[setN]
 ·unfold Mk.at_
  by_cases c:j<142
  ·rw[if_pos c,if_pos c]
   by_cases b:j<52
   ·rw[if_pos b,if_pos b]
   ·rw[if_neg b,if_neg b]
    unfold HD.at_
    simp only[setN]
    by_cases f:j-52<67+20
    ·by_cases d:j-52<67
     ·simp only[d,if_true]
     ·rw[if_neg (by omega),if_neg d,if_pos f,if_neg (by omega),if_neg d,if_pos f,if_neg (by omega)]
    ·simp only[f,if_false]
  ·rw[if_neg c,if_neg c]
theorem Mk.set_Nk (m:Mk)(S:Sl)(i k:Nat)(b:i<20)(c:k=119+i)(v:Int):(Mk.cells m S).set k (.int .u64 v)=Mk.cells {m with h:=setN m.h i v} S:=by subst c;exact Mk.set_N m S i b v
theorem Mk.get_Nk (m:Mk)(S:Sl)(i k:Nat)(b:i<20)(c:k=119+i):(Mk.cells m S)[k]? =some (.int .u64 (m.h.N i)):=by subst c;exact Mk.get_N m S i b
theorem Mk.set_depth (m:Mk)(S:Sl)(v:Nat):(Mk.cells m S).set 142 (.int .u64 (v:Int))=Mk.cells {m with depth:=v} S:=
 aBo _ _ _ _ _ rfl fun j hj=>by
  unfold Mk.at_
  by_cases b:j<142
  ·rw[if_pos b,if_pos b]
  ·rw[if_neg b,if_neg b,if_neg hj,if_neg hj]
theorem Mk.set_b (m:Mk)(S:Sl)(v:Value):(Mk.cells m S).set 143 v=Mk.cells m {S with b:=v}:=
 aBo _ _ _ _ _ rfl fun j hj=>by
  unfold Mk.at_
  by_cases c:j<142
  ·rw[if_pos c,if_pos c]
  ·rw[if_neg c,if_neg c,if_neg hj,if_neg hj]
theorem Mk.set_d (m:Mk)(S:Sl)(v:Value):(Mk.cells m S).set 144 v=Mk.cells m {S with d:=v}:=
 aBo _ _ _ _ _ rfl fun j hj=>by
  unfold Mk.at_
  by_cases b:j<142
  ·rw[if_pos b,if_pos b]
  ·rw[if_neg b,if_neg b,if_neg hj,if_neg hj]
theorem Mk.set_f (m:Mk)(S:Sl)(v:Value):(Mk.cells m S).set 145 v=Mk.cells m {S with f:=v}:=
 aBo _ _ _ _ _ rfl fun j hj=>by
  unfold Mk.at_
  by_cases b:j<142
  ·rw[if_pos b,if_pos b]
  ·rw[if_neg b,if_neg b,if_neg hj,if_neg hj]
theorem Mk.set_m (m:Mk)(S:Sl)(v:Value):(Mk.cells m S).set 146 v=Mk.cells m {S with m:=v}:=by
 refine(List.ext_getElem? fun j=>?_)
 rw[List.getElem?_set]
 by_cases g:j<147
 ·by_cases i:146=j
  ·subst i
   rw[if_pos rfl,if_pos (by rw[Mk.len];decide),Mk.get _ _ _ g]
   rfl
  ·rw[if_neg i,Mk.get _ _ _ g,Mk.get _ _ _ g]
   unfold Mk.at_
   by_cases d:j<142
   ·rw[if_pos d,if_pos d]
   ·rw[if_neg d,if_neg d]
    by_cases c:j=142
    ·rw[if_pos c,if_pos c]
    ·rw[if_neg c,if_neg c]
     by_cases f:j=143
     ·rw[if_pos f,if_pos f]
     ·rw[if_neg f,if_neg f]
      by_cases b:j=144
      ·rw[if_pos b,if_pos b]
      ·rw[if_neg b,if_neg b,if_pos (by omega),if_pos (by omega)]
 ·rw[if_neg (by omega),List.getElem?_eq_none (by rw[Mk.len];omega),List.getElem?_eq_none (by rw[Mk.len];omega)]
theorem Mk.cells_same {m m':Mk}(b:m.C=m'.C)(c:m.h=m'.h)(d:m.depth=m'.depth)(S:Sl):Mk.cells m S=Mk.cells m' S:=by
 unfold Mk.cells
 congr 1
 funext i
 unfold Mk.at_
 rw[b,c,d]
theorem aDY {w:World}{b:Array Oper}{rest:List Oper}{o:Oper}{a:Act}{Q:Exit→Act→World→Prop}(k:o.guard=none)(s x:Operand)
 (q:o.op= .call {callee:= .builtin .append,args:= #[s,x],argTypes:= #[24,24]})
 (base f:Nat)(n c:Nat)(l:List Int)(hs:a.eval s= .slice (some ⟨f,0,none⟩) n c)(u:Own w base (some ⟨f,0,none⟩) n c l)(I:0<n)(j:Option Addr)(m t:Nat)(d:List Int)(D:a.eval x= .slice j m t)(H:Bytes w j d)(y:d.length=m)(p:n+m≤70368744177664)
 (h: ∀b' i w',Own w' base (some ⟨b',0,none⟩) (n+m) i (l++d)→w.grownBy w' (some f)→(b'=f∨b'=w.heap.size)→wpList Tryz.prog b Q rest (a.put o.dst (.slice (some ⟨b',0,none⟩) (n+m) i)) w'):wpList Tryz.prog b Q (o::rest) a w:=
 wpList_plain k fun K hK=>by
  obtain⟨J,i,w',B,r,E,z⟩:=aCR w o.type base _ n c l u j m t d H y p
  unfold Oper.wp execOp
  simp only[q,resolve,invoke,builtin,Sem.run_bind,Sem.run_pure,Result.andThen_ok,List.map_toArray,List.map_cons,List.map_nil,hs,D,B]
  rcases r.2.2.2.2 with⟨L,N⟩|⟨g,C,G,A,F,M,_⟩
  ·exfalso;omega
  ·injection A with e1 e2 e3
   subst e1
   refine hK _ _ (h g i w' r E ?_)
   simpa [ownB]using z
end Mc
namespace Md
open Bytes8 Blk8 Own8 OwnM OwnE Od Ga Ma Kf Mb Mc
structure MkB (w:World)(B g bb cb:Nat)(S:Sl)(m:Mk):Prop where
 st:Blk w g (Mk.cells m {S with b:= .slice (some ⟨bb,0,none⟩) m.b.length cb}) 157
 own:Own w B (some ⟨bb,0,none⟩) m.b.length cb m.b
 ne:g≠bb
def Two (g bb:Nat)(k:Nat):Prop:=k=g∨k=bb
theorem MkB.put {w w':World}{B g c cb:Nat}{S:Sl}{m:Mk}(h:MkB w B g c cb S m){l:List Int}(d:l.length=m.b.length)(i:Own w' B (some ⟨c,0,none⟩) m.b.length cb l)(f:Put8 c w w'):MkB w' B g c cb S {m with b:=l}:=
 ⟨by show Blk w' g (Mk.cells m {S with b:= .slice (some ⟨c,0,none⟩) l.length cb}) _
     rw[d];exact aCu h.st f.kept h.ne,by show Own w' B _ l.length cb l;rw[d];exact i,h.ne⟩
def LongB (w:World)(B g bb:Nat)(S:Sl)(m:Mk)(w':World):Prop:= ∃bb' cb',MkB w' B g bb' cb' S m∧(bb'=bb∨w.heap.size≤bb')∧KeptF (Two g bb) w w'
attribute [local irreducible] Mk.cells wpList Code.wp
theorem aEJ (B g z cb:Nat)(S:Sl)(m:Mk)(C:Option Addr)(k c2:Nat)(c:List Int)(w:World)(h:MkB w B g z cb S m)(hb:Bytes w C c)(L:c.length=k)(h0:0<m.b.length)(hn:m.b.length+k≤4000000)(h7:0≤m.h.N 7∧m.h.N 7≤1000000)(hg:B≤g):
 Calls Tryz.prog 79 #[.pointer (some ⟨g,0,none⟩),.slice C k c2] w fun e w'=>e= .returned (.int .u64 (m.b.length:Nat))∧LongB w B g z S (m.object c) w':=by
 obtain⟨hs,ho,t⟩:=h
 generalize Z:m.b.length=n at*
 have R:=yH Z
 have A:=yH hs
 have HO:=yH ho
 have c3:=A.out.cell (Mk.get_b _ _)
 have f3:=A.out.frozen 143
 have ab:=A.out.lt
 clear hs ho Z
 go_enter Tryz.func79,Tryz.ntmps79
 go_upto_region 4 with(refine aDY rfl (.tmp 16) (.tmp 17) rfl B z n cb m.b rfl HO.out h0 C k c2 c rfl hb L (by omega) ?_;intro f o w2 u r y;have D:=yH u;have s:=yH (aAl A.out r t);have V:=yH (KeptF.grow _ r);clear u r;have e3:=s.out.cell (Mk.get_b _ _);have d3:w2.frozen? ⟨g,143,none⟩=false:=s.out.frozen 143;have q:=yH (s.out.set_ 143 (.slice (some ⟨f,0,none⟩) (n+k) o));have e6:=q.out.cell (i:=125) ((List.getElem?_set_ne (by decide)).trans (Mk.get_Nk _ _ 6 125 (by decide) rfl));have d6:(w2.setCell ⟨g,143,none⟩ (.slice (some ⟨f,0,none⟩) (n+k) o)).frozen? ⟨g,125,none⟩=false:=q.out.frozen 125)
 have l:g≠f:=by
  rcases y with h|h
  ·rw[h];exact t
  ·omega
 obtain⟨I,d⟩: ∃x,x=(w2.setCell ⟨g,143,none⟩ (.slice (some ⟨f,0,none⟩) (n+k) o)).setCell ⟨g,125,none⟩ (.int .u64 (n:Int)):=⟨_,rfl⟩
 have G:=q.out.set_ 125 (.int .u64 (n:Int))
 rw[Mk.set_b,Mk.set_Nk _ _ 6 125 (by decide) rfl,←d]at G
 have H:=yH G
 have d7:=H.out.cell (Mk.get_Nk _ _ 7 126 (by decide) rfl)
 have g7:=H.out.frozen 126
 rw[show(setN m.h 6 (n:Int)).N 7=m.h.N 7 from rfl]at d7
 have E:=yH (show Own I B (some ⟨f,0,none⟩) (n+k) o (m.b++c)by
  have h1:Own (w2.setCell ⟨g,143,none⟩ (.slice (some ⟨f,0,none⟩) (n+k) o)) B (some ⟨f,0,none⟩) (n+k) o (m.b++c):=Kf.Own.keptF D.out (KeptF.set1 w2 g 143 _) (fun j hj e=>l (by injection hj with hj;exact(e.symm.trans hj.symm)))
  rw[d]
  exact Kf.Own.keptF h1 (KeptF.set1 _ g 125 _) (fun j hj e=>l (by injection hj with hj;exact(e.symm.trans hj.symm))))
 have J:=yH (show KeptF (Two g z) w I by
  rw[d]
  exact(KeptF.setCell (p:=⟨g,143,none⟩) (F:=Two g z) (V.out.mono (fun i e=>Or.inr (Option.some.inj e).symm)) (fun _=>Or.inl rfl) _).setCell (p:=⟨g,125,none⟩) (fun _=>Or.inl rfl) _)
 clear G
 rw[←d]
 clear d
 have aa:IntKind.u64.wrap (m.h.N 7+1)=m.h.N 7+1:=by rw[IntKind.wrap_u64];omega
 go_region
 go_wp2
 go_ret
 refine⟨rfl,f,o,⟨?_,?_,l⟩,?_,?_⟩
 ·have X:=H.out.set_ 126 (.int .u64 (m.h.N 7+1))
  rw[Mk.set_Nk _ _ 7 126 (by decide) rfl]at X
  have M:(m.object c).b.length=n+k:=by show(m.b++c).length=_;rw[List.length_append,R.out,L]
  rw[M]
  have e:=Mk.cells_same (m:={m with h:=setN (setN m.h 6 (n:Int)) 7 (m.h.N 7+1)}) (m':=m.object c) rfl (by show _=setN (setN m.h 6 ((m.b.length:Nat):Int)) 7 (m.h.N 7+1);rw[R.out]) rfl {S with b:= .slice (some ⟨f,0,none⟩) (n+k) o}
  have Y:Blk (I.setCell ⟨g,126,none⟩ (.int .u64 (m.h.N 7+1))) g (Mk.cells {m with h:=setN (setN m.h 6 (n:Int)) 7 (m.h.N 7+1)} {S with b:= .slice (some ⟨f,0,none⟩) (n+k) o}) 157:=X
  rw[e]at Y
  exact Y
 ·have M:(m.object c).b.length=n+k:=by show(m.b++c).length=_;rw[List.length_append,R.out,L]
  rw[M]
  exact Kf.Own.keptF E.out ((KeptF.set1 _ g 126 _).drew) (fun j hj e=>l (by injection hj with hj;exact(e.symm.trans hj.symm)))
 ·rcases y with h|h
  ·exact .inl h
  ·exact .inr (by omega)
 ·exact(J.out.setCell (p:=⟨g,126,none⟩) (fun _=>Or.inl rfl) _).drew
end Md
namespace Me
open Bytes8 Blk8 Own8 OwnE Od Ga Ma Kf Mb Mc
def Kns (w:World)(A:Option Addr)(ks:List Kn):Prop:= ∀i (h:i<ks.length),∃b,A=some ⟨b,0,none⟩∧b<w.heap.size∧
 w.cell? ⟨b,i*5,none⟩=some (.string (Fa.T ks[i].text))∧w.cell? ⟨b,i*5+1,none⟩=some (.int .u64 (ks[i].at_:Int))∧w.cell? ⟨b,i*5+2,none⟩=some (.int .i64 (ks[i].slot:Int))∧w.cell? ⟨b,i*5+3,none⟩=some (.int .i64 (ks[i].count:Int))
theorem aEK {l:List Kn}{slot:Nat}(h:inSlot l slot≠0): ∃k∈l,lastIn l slot=k.at_:=by
 unfold inSlot at h
 unfold lastIn
 rcases hf:(l.filter fun k=>k.slot==slot).getLast? with _|k
 ·rw[List.getLast?_eq_none_iff]at hf
  rw[hf]at h
  exact absurd rfl h
 ·have:=List.mem_of_getLast? hf
  exact⟨k,(List.mem_filter.1 this).1,by rw[hf];rfl⟩
theorem aCv (l:List Kn)(slot:Nat):inSlot l slot≤l.length:=List.length_filter_le _ _
attribute [local irreducible] Mk.cells wpList Code.wp
theorem aIe (g C cb n c a slot len aa:Nat)(J:List Value)(T:TypeId)(l:List Int)(A:Option Addr)(d:List Kn)(B:Nat)(w:World)(hs:Blk w g J T)(h3:J[143]? =some (.slice (some ⟨C,0,none⟩) n cb))(hb:Own w B (some ⟨C,0,none⟩) n cb l)(o:g≠C)(X:n≤4000000)
 (hk:Kns w A d)(hl:d.length=len)(ag:len≤1000000)(aj:slot≤1000)(ht:c+16*slot+16≤n)(ha: ∀k∈d,k.at_+32≤n):
 Calls Tryz.prog 131 #[.pointer (some ⟨g,0,none⟩),.slice A len aa,.int .u64 (c:Int),.int .u64 (a:Int),.int .i64 (slot:Int)] w fun e w'=>e= .returned (.int .u64 (inSlot d slot:Nat))∧Own w' B (some ⟨C,0,none⟩) n cb (hung l d c a slot)∧Put8 C w w':=by
 have Z:=yH hs
 have H3:=yH h3
 have HB:=yH hb
 have HK:=yH hk
 have HA:=yH ha
 have HL:=yH hl
 clear hs h3 hb hk ha hl
 go_enter Tryz.func131,Tryz.ntmps131
 go_wp2
 go_loopw [11,12,13] (fun x y i wr=> ∃k:Nat,k≤len∧i= .int .i64 (k:Int)∧x= .int .u64 (inSlot (d.take k) slot:Nat)∧y= .int .u64 (lastIn (d.take k) slot:Nat)∧wr=w) (fun _ _ i _=>len-(intOf i).toNat)
 case atStart=>exact⟨0,Nat.zero_le _,rfl,rfl,rfl,rfl⟩
 case round=>
  obtain⟨k,ai,rfl,rfl,rfl,rfl⟩:=hrel
  by_cases ad:k<len
  ·have N:k<d.length:=by rw[HL.out];exact ad
   obtain⟨b,rfl,ah,c0,c1,c2,c4⟩:=HK.out k N
   have Y:=yH (aDw d k N)
   have z:=yH (aHZ (d.take k) d[k] slot)
   have j:=yH (aCm (d.take k) d[k] slot)
   have ae:inSlot (d.take k) slot≤k:=Nat.le_trans (aCv _ _) (by simp;omega)
   clear c0 c4
   generalize d[k]=q at*
   obtain⟨qs,H⟩: ∃x,x=q.slot:=⟨_,rfl⟩
   obtain⟨L,f⟩: ∃x,x=inSlot (d.take k) slot:=⟨_,rfl⟩
   obtain⟨V,m⟩: ∃x,x=lastIn (d.take k) slot:=⟨_,rfl⟩
   rw[←H]at c2
   rw[←f]at z ae⊢
   rw[←m]at j⊢
   have E:=yH H
   clear H f m
   by_cases R:qs=slot
   ·have d1:((qs:Int)==(slot:Int))=true:=by simp[R]
    rw[if_pos (E.out▸R)]at z j
    clear R
    go_wp2
    go_roundw
    case rel=>exact⟨k+1,by omega,by go_num,by rw[Y.out,z.out];go_num,by rw[Y.out,j.out],trivial⟩
    case measure=>simp[intOf];omega
   ·have d1:((qs:Int)==(slot:Int))=false:=by simp;omega
    rw[if_neg (fun e=>R (E.out▸e))]at z j
    clear R
    go_wp2
    go_roundw
    case rel=>exact⟨k+1,by omega,by go_num,by rw[Y.out,z.out];rfl,by rw[Y.out,j.out],trivial⟩
    case measure=>simp[intOf];omega
  ·obtain rfl:k=len:=by omega
   rw[←HL.out,List.take_length]
   obtain⟨L,f⟩: ∃x,x=inSlot d slot:=⟨_,rfl⟩
   obtain⟨V,m⟩: ∃x,x=lastIn d slot:=⟨_,rfl⟩
   rw[←f,←m]
   have M:V+32≤n∨L=0:=by
    rcases Nat.eq_zero_or_pos L with h|h
    ·exact .inr h
    ·left
     obtain⟨q,ac,ab⟩:=aEK (l:=d) (slot:=slot) (by omega)
     rw[m,ab]
     exact HA.out q ac
   have D:L≤d.length:=by rw[f];exact aCv _ _
   rw[HL.out]at D
   have z:=yH f
   have j:=yH m
   clear f m
   by_cases h0:L=0
   ·have HE:=yH (show hung l d c a slot=put8 (put8 l (c+16*slot) a) (c+16*slot+8) a by unfold hung;rw[←z.out,if_pos h0])
    subst h0
    clear M D
    go_wp2_with(first|(go_at_call 83;(with_reducible refine Calls.mono (aF2 g C cb n (c+16*slot) _ (by omega) J T l a B _ Z.out H3.out HB.out o (by omega) X) ?_);rintro e w1 ⟨rfl,u,p⟩;have I:=yH u;have r:=yH p;clear u p)|(go_at_call 83;(refine Calls.mono (aF2 g C cb n (c+16*slot+8) _ (by omega) J T _ a B _ (aCu Z.out r.out.kept o) H3.out I.out o (by omega) X) ?_);rintro e w2 ⟨rfl,s,t⟩;have F:=yH s;have G:=yH t;clear s t)|fail)
    go_ret
    exact⟨by rw[←z.out];rfl,by rw[HE.out];exact F.out,r.out.trans G.out⟩
   ·have d0:((L:Int)==0)=false:=by simp;omega
    have af:V+32≤n:=by omega
    have HE:=yH (show hung l d c a slot=put8 (put8 l (V+24) a) (c+16*slot+8) a by unfold hung;rw[←z.out,if_neg h0,←j.out])
    clear M h0
    go_wp2_with(first|(go_at_call 83;(with_reducible refine Calls.mono (aF2 g C cb n (V+24) _ (by omega) J T l a B _ Z.out H3.out HB.out o (by omega) X) ?_);rintro e w1 ⟨rfl,u,p⟩;have I:=yH u;have r:=yH p;clear u p)|(go_at_call 83;(refine Calls.mono (aF2 g C cb n (c+16*slot+8) _ (by omega) J T _ a B _ (aCu Z.out r.out.kept o) H3.out I.out o (by omega) X) ?_);rintro e w2 ⟨rfl,s,t⟩;have F:=yH s;have G:=yH t;clear s t)|fail)
    go_ret
    exact⟨by rw[←z.out];rfl,by rw[HE.out];exact F.out,r.out.trans G.out⟩
end Me
namespace Fb
open Bytes8 Blk8
def Grew (w w':World):Prop:= ∃q os,w'=Sort.grow (w.drewN q) os
theorem Grew.refl (w:World):Grew w w:=⟨0,#[],by rw[Sort.grow_empty];rfl⟩
theorem Grew.alloc {w w':World}(h:Grew w w')(o:Obj):Grew w (w'.alloc o):=by
 obtain⟨q,b,rfl⟩:=h
 exact⟨q,b++ #[o],by rw[Sort.alloc_eq_grow,Sort.grow_grow]⟩
theorem Grew.drew {w w':World}(h:Grew w w'):Grew w w'.drew:=by
 obtain⟨q,b,rfl⟩:=h
 exact⟨q+1,b,rfl⟩
theorem Grew.drewN {w w':World}(h:Grew w w')(n:Nat):Grew w (w'.drewN n):=by
 obtain⟨q,b,rfl⟩:=h
 refine⟨q+n,b,?_⟩
 simp only[Sort.grow,World.drewN,Nat.add_assoc]
theorem Grew.trans {a b c:World}(h:Grew a b)(k:Grew b c):Grew a c:=by
 obtain⟨q,os,rfl⟩:=h
 obtain⟨f,d,rfl⟩:=k
 refine⟨q+f,os++d,?_⟩
 simp only[Sort.grow,World.drewN,Nat.add_assoc,Array.append_assoc]
theorem Grew.below {w w':World}(h:Grew w w'):Below w.heap.size w w':=by
 obtain⟨q,b,rfl⟩:=h
 refine⟨rfl,rfl,rfl,by simp[Sort.grow,World.drewN],fun k hk=>?_⟩
 exact Sort.heap_grow_old (w.drewN q) b hk
theorem Grew.boxed (w:World)(o:Obj):Grew w (w.alloc o):=(Grew.refl w).alloc o
end Fb
namespace Fc
open Bytes8 Blk8 Fa Fb
theorem aBL (l:List Int)(b:AllB l): ∃(cf:World→Nat) (mk:World→World),∀w,
 (convert 9 24 (.string (T l))).run Tryz.prog w= .ok (.slice (some ⟨w.heap.size,0,none⟩) l.length (cf w)) (mk w)∧(∀g,w.heap.size=g→Bytes (mk w) (some ⟨g,0,none⟩) l)∧Grew w (mk w):=by
 refine⟨fun w=>grownCap w (T l).size 0 5,fun w=>w.drew.alloc (.cells (bytesRow (T l) (grownCap w (T l).size 0 5)) 5 ((bytesRow (T l) (grownCap w (T l).size 0 5)).size,(bytesRow (T l) (grownCap w (T l).size 0 5)).size+1)),fun w=>⟨?_,?_,?_⟩⟩
 ·rw[run_bytes_of_string w 9 24 5 (T l) Tryz.underlying9 Tryz.underlying24 Tryz.underlying5,aA9]
 ·rintro g rfl
  refine⟨b,fun i hi=>⟨w.heap.size,0,rfl,by simp,?_⟩⟩
  rw[Nat.zero_add]
  show(w.drew.alloc (.cells _ _ _)).cell? ⟨w.drew.heap.size,i,none⟩=_
  rw[World.cell?_alloc_mark]
  have c:i<(T l).data.size:=by
   have:=aA9 l
   show i<(T l).size
   omega
  refine(bytesRow_at (T l) _ i c).trans ?_
  have j:(T l).data[i]=(T l).toList[i]'(by rw[ByteArray.toList_eq];simpa using c):=by simp only[ByteArray.toList_eq];rfl
  rw[j]
  simp only[aAz,List.getElem_map]
  have k:=b l[i] (List.getElem_mem hi)
  have f:l.getD i 0=l[i]:=by simp[List.getElem?_eq_getElem hi]
  rw[f]
  have d:(((l[i]).toNat.toUInt8.toNat:Nat):Int)=l[i]:=by simp;omega
  rw[d]
 ·exact((Grew.refl w).drew).alloc _
end Fc
end Go.Proofs.YtlelnfokffflnaaGreat
