/-
  Texts beneath the proof.
-/
import Derived.Sort.Grow
import Derived.Test.YtlelnfokffflnaaGreatQl14
set_option linter.unusedVariables false
set_option linter.unusedSimpArgs false
set_option maxRecDepth 100000
set_option maxHeartbeats 8000000
open Go.ChangeShapes Go.WideShapes Go.ChangeAt Go.RowKit
namespace Go.Proofs.YtlelnfokffflnaaGreat
namespace Yn
open Bytes8 Blk8 Own8 OwnE Dc Ob Rows2 Kf Yc Yp Yd Ye Yg Yh Yi Yl
theorem aAD:(Tryz.prog.info? 179).map (·.size)=some 21:=by kernel_rfl
theorem aMF:Elt 175 169 2 16 (.agg #[.int .u64 0,.int .u64 0]):=⟨Tryz.underlying169,by kernel_rfl,rfl,by decide⟩
theorem wpList_build_as {P:Program}{c:Array Oper}{rest:List Oper}{o:Oper}{a:Act}{w:World}{Q:Exit→Act→World→Prop}(e:o.guard=none)(t:TypeId)(b:Array (Nat×Operand))(f:o.op= .build t b)(cells:Array Value)
 (d:P.built t (b.map fun(i,x)=>(i,a.eval x)).toList=some cells)(h:wpList P c Q rest (a.put o.dst (.agg cells)) w):wpList P c Q (o::rest) a w:=
 wpList_build e t b f (by rw[d];rfl) (by rw[d];exact h)
def Kp (bd:List Int)(j:Nat)(i:Nat):Int:=if i<j then itK bd i else 0
theorem aPG (a:List Int)(j:Nat)(b:j<16)(s r m x:Int)(A:Option Addr)(n c:Nat):(entL s r m (Kp a j) x A n c).set (3+j) (.int .u8 (itK a j))=entL s r m (Kp a (j+1)) x A n c:=by
 rcases j with _|_|_|_|_|_|_|_|_|_|_|_|_|_|_|_|j
 all_goals first|rfl|omega
theorem aPH (a:List Int)(s r m x:Int)(A:Option Addr)(n c:Nat):entL s r m (Kp a 16) x A n c=entL s r m (itK a) x A n c:=rfl
theorem ent_cell {w:World}{g:Nat}{T:TypeId}{s r m x:Int}{K:Nat→Int}{A:Option Addr}{n c:Nat}(h:Blk w g (entL s r m K x A n c) T)(j:Nat)(b:j<16): ∃u,w.cell? ⟨g,3+j,none⟩=some u:=by
 have a:(entL s r m K x A n c).length=21:=rfl
 exact⟨(entL s r m K x A n c)[3+j],h.cell (List.getElem?_eq_getElem (by omega))⟩
theorem aF1 (A:Option Addr)(l:List Int)(n Z a:Nat)(w:World)(M:Bytes w A l)(hL:l.length=n)(hn:n≤1000000)(hc:n≤Z)(aS:Z≤maxLen)(ha:a≤18446744073709551615):
 Calls Tryz.prog 151 #[.slice A n Z,.int .u64 (a:Int)] w (EntTold2 l a w):=by
 have b0:=yH ((Below.refl w.heap.size w).alloc (yR _) (zC 179))
 have R0:=yH (show Blk (w.alloc (zC 179)) w.heap.size zL 179 from Blk.new w zL _)
 have V:=yH (aKg A l n Z a 3 (w.alloc (zC 179)) (M.below b0.out (yR _)) hL hn hc aS ha)
 unfold Rbodied at V
 have Y:=yH (aDJ (a:=a) M.1)
 have s:entC0 l a=if ecode l a 3 48 16≠0 then ecode l a 3 48 16 else if u8 (bodyL l a) 0=0 then 13 else if risB (itA (bodyL l a)) (itN (bodyL l a))then 0 else 11:=rfl
 have hr:=aKf l a 3 48 16
 have X:=yH (aHg (l:=l) (a:=a))
 by_cases h1:rcode l a 3≠0
 ·rw[if_pos h1]at hr
  rw[hr,if_pos h1]at s
  have f:=yH s
  have d:=yH (X.out (by rw[s];exact h1))
  clear s M hL hr
  generalize rcode l a 3=aG at*
  go_enter Tryz.func151,Tryz.ntmps151
  go_wp2_with(first
   |(go_at_call 153;(with_reducible refine V.out.mono ?_);rintro e w2 ⟨B,m,cb,rfl,k,_⟩;have I:=yH (R0.out.below k R0.out.lt);have r:=yH (b0.out.trans (k.mono b0.out.size));clear k)
   |(refine wpList_store_row rfl 179 (.tmp 4) (.tmp 20) rfl w.heap.size _ rfl rfl 179 _ I.out aAD rfl aCt ?_))
  refine bodyPost_ret (v:= .tuple #[entV 0 0 0 (fun _=>0) 0 none 0 0,.int .i64 aG]) (by exact aAr Tryz.results151 _ _ w.heap.size 179 _ (0,0) _ _ rfl rfl (Blk.setRow I.out zL) Tryz.underlying179 rfl aAD) rfl ?_
  unfold EntTold2
  rw[d.out.1,d.out.1,d.out.1,d.out.1,d.out.2.1,d.out.2.2,f.out]
  exact⟨none,0,rfl,aAi r.out (yR _) _,aBh _ _ _ _,fun b g e=>by cases e⟩
 have h0:rcode l a 3=0:=by omega
 rw[if_neg h1]at hr
 rw[h0]at V
 have ah:entC0 l a=0→eNum l a 0=u8 (bodyL l a) 0∧eNum l a 8=u8 (bodyL l a) 8∧eNum l a 16=u8 (bodyL l a) 16∧eNum l a 40=u8 (bodyL l a) 40∧eK l a=itK (bodyL l a)∧eN l a=itN (bodyL l a):=fun h=>by
  obtain⟨t1,t2,t3⟩:=aFe h
  exact⟨t1 0,t1 8,t1 16,t1 40,t2,t3⟩
 have aC:=yH ah
 have x:=yH fun(i:Nat) (z:Int) (B:Option Addr) (m cb:Nat) (W:World) (hB:Bytes W B (bodyL l a)) (hm:(bodyL l a).length=m) (hm2:m≤1000000) (hz:z=(i:Int)) (hi:i+8≤m)=>ru_z B (bodyL l a) m cb i z W hB hm hm2 hi hz
 have ak:=yH s
 have aA:=yH hr
 have aT:=yH (show itN (bodyL l a)=((bodyL l a).length-48)/16 from rfl)
 clear s M hL h1 h0 hr ah
 generalize aa:bodyL l a=c at*
 have aP:=yH aa
 clear aa
 go_enter Tryz.func151,Tryz.ntmps151
 go_upto_region 4 with(go_at_call 153;(with_reducible refine V.out.mono ?_);rintro e w2 ⟨B,m,cb,rfl,k,ag⟩)
 obtain⟨d1,d2,d5⟩:=ag (by first|rfl|trivial)
 have I:=yH (R0.out.below k R0.out.lt)
 have r:=yH (b0.out.trans (k.mono b0.out.size))
 have D1:=yH d1
 have y:=yH d2
 clear d1 d2 k ag
 have ac:=y.out
 by_cases F:m<64∨m%16≠0
 ·have an:=aA.out.trans (if_pos (by rw[y.out];omega))
  have f:=yH (show entC0 l a=5 by rw[ak.out,an];rfl)
  have d:=yH (X.out (by rw[f.out];decide))
  clear an
  by_cases bc:m<64
  ·have e1:(m:Int)<64:=by omega
   clear ac F
   go_wp2_with(refine wpList_store_row rfl 179 (.tmp 4) (.tmp 31) rfl w.heap.size _ rfl rfl 179 _ I.out aAD rfl aCt ?_)
   refine bodyPost_ret (v:= .tuple #[entV 0 0 0 (fun _=>0) 0 none 0 0,.int .i64 5]) (by exact aAr Tryz.results151 _ _ w.heap.size 179 _ (0,0) _ _ rfl rfl (Blk.setRow I.out zL) Tryz.underlying179 rfl aAD) rfl ?_
   unfold EntTold2
   rw[d.out.1,d.out.1,d.out.1,d.out.1,d.out.2.1,d.out.2.2,f.out]
   exact⟨none,0,rfl,aAi r.out (yR _) _,aBh _ _ _ _,fun b g e=>by cases e⟩
  ·have e1: ¬(m:Int)<64:=by omega
   obtain⟨R,hR⟩: ∃R:Int,R=((m%16:Nat):Int):=⟨_,rfl⟩
   have e2:(m:Int).tmod 16=R:=by rw[Int.tmod_eq_emod_of_nonneg (by omega),hR];omega
   have aZ:(m:Int)%16=R:=by rw[hR];omega
   have e3:(R==0)=false:=by simp;omega
   have e4:(R !=0)=true:=by simp;omega
   have e5: ¬R=0:=by omega
   clear ac F hR
   go_wp2_with(refine wpList_store_row rfl 179 (.tmp 4) (.tmp 31) rfl w.heap.size _ rfl rfl 179 _ I.out aAD rfl aCt ?_)
   refine bodyPost_ret (v:= .tuple #[entV 0 0 0 (fun _=>0) 0 none 0 0,.int .i64 5]) (by exact aAr Tryz.results151 _ _ w.heap.size 179 _ (0,0) _ _ rfl rfl (Blk.setRow I.out zL) Tryz.underlying179 rfl aAD) rfl ?_
   unfold EntTold2
   rw[d.out.1,d.out.1,d.out.1,d.out.1,d.out.2.1,d.out.2.2,f.out]
   exact⟨none,0,rfl,aAi r.out (yR _) _,aBh _ _ _ _,fun b g e=>by cases e⟩
 have am:=aA.out.trans (if_neg (by rw[y.out];omega))
 have J:=ak.out
 rw[am,if_neg (by decide)]at J
 have az:=yH J
 obtain⟨t,ht⟩: ∃t,m=48+16*t:=⟨(m-48)/16,by omega⟩
 subst ht
 have ax:itN c=t:=by rw[aT.out,y.out];omega
 have au:=yH ax
 have ba:1≤t:=by omega
 have e1: ¬((48+16*t:Nat):Int)<64:=by omega
 have e2:((48+16*t:Nat):Int).tmod 16=0:=by rw[Int.tmod_eq_emod_of_nonneg (by omega)];omega
 have aZ:((48+16*t:Nat):Int)%16=0:=by omega
 have D:=yH I.out.lt
 clear ac F ax am J
 go_upto_region 7 with(first
  |(go_at_call 94;(first|(with_reducible refine(x.out 0 0 _ _ _ _ D1.out y.out (by omega) rfl (by omega)).mono ?_)|(with_reducible refine(x.out 8 8 _ _ _ _ D1.out y.out (by omega) rfl (by omega)).mono ?_)|(with_reducible refine(x.out 16 16 _ _ _ _ D1.out y.out (by omega) rfl (by omega)).mono ?_)|(with_reducible refine(x.out 40 40 _ _ _ _ D1.out y.out (by omega) rfl (by omega)).mono ?_));rintro e w' ⟨rfl,rfl⟩)
  |(refine wpList_build_as rfl 179 _ rfl #[.int .u64 (u8 c 0),.int .u64 (u8 c 8),.int .u64 (u8 c 16),.int .u8 0,.int .u8 0,.int .u8 0,.int .u8 0,.int .u8 0,.int .u8 0,.int .u8 0,.int .u8 0,.int .u8 0,.int .u8 0,.int .u8 0,.int .u8 0,.int .u8 0,.int .u8 0,.int .u8 0,.int .u8 0,.int .u64 (u8 c 40),.slice none 0 0] (by kernel_rfl) ?_)
  |(refine wpList_store_row rfl 179 (.tmp 8) (.tmp 40) rfl w2.heap.size #[.int .u64 (u8 c 0),.int .u64 (u8 c 8),.int .u64 (u8 c 16),.int .u8 0,.int .u8 0,.int .u8 0,.int .u8 0,.int .u8 0,.int .u8 0,.int .u8 0,.int .u8 0,.int .u8 0,.int .u8 0,.int .u8 0,.int .u8 0,.int .u8 0,.int .u8 0,.int .u8 0,.int .u8 0,.int .u64 (u8 c 40),.slice none 0 0] rfl rfl 179 zL.toArray (Blk.new w2 zL 179) aAD rfl (by simp[Value.oneCell']) ?_))
 have X0:=yH (show Blk ((w2.alloc (zC 179)).setRow w2.heap.size #[.int .u64 (u8 c 0),.int .u64 (u8 c 8),.int .u64 (u8 c 16),.int .u8 0,.int .u8 0,.int .u8 0,.int .u8 0,.int .u8 0,.int .u8 0,.int .u8 0,.int .u8 0,.int .u8 0,.int .u8 0,.int .u8 0,.int .u8 0,.int .u8 0,.int .u8 0,.int .u8 0,.int .u8 0,.int .u64 (u8 c 40),.slice none 0 0]) w2.heap.size (entL (u8 c 0) (u8 c 8) (u8 c 16) (Kp c 0) (u8 c 40) none 0 0) 179 from Blk.setRow (show Blk (w2.alloc (zC 179)) w2.heap.size zL 179 from Blk.new w2 zL _) (entL (u8 c 0) (u8 c 8) (u8 c 16) (fun _=>0) (u8 c 40) none 0 0))
 have BX:=yH (show Below w2.heap.size w2 ((w2.alloc (zC 179)).setRow w2.heap.size #[.int .u64 (u8 c 0),.int .u64 (u8 c 8),.int .u64 (u8 c 16),.int .u8 0,.int .u8 0,.int .u8 0,.int .u8 0,.int .u8 0,.int .u8 0,.int .u8 0,.int .u8 0,.int .u8 0,.int .u8 0,.int .u8 0,.int .u8 0,.int .u8 0,.int .u8 0,.int .u8 0,.int .u8 0,.int .u64 (u8 c 40),.slice none 0 0])from aAi ((Below.refl w2.heap.size w2).alloc (yR _) _) (yR _) _)
 generalize (w2.alloc (zC 179)).setRow w2.heap.size #[.int .u64 (u8 c 0),.int .u64 (u8 c 8),.int .u64 (u8 c 16),.int .u8 0,.int .u8 0,.int .u8 0,.int .u8 0,.int .u8 0,.int .u8 0,.int .u8 0,.int .u8 0,.int .u8 0,.int .u8 0,.int .u8 0,.int .u8 0,.int .u8 0,.int .u8 0,.int .u8 0,.int .u8 0,.int .u64 (u8 c 40),.slice none 0 0]=w3 at*
 have RX:=yH (I.out.below BX.out D.out)
 have WX:=yH (r.out.trans (BX.out.mono r.out.size))
 have x0:=X0.out.cell (i:=0) rfl
 obtain⟨s0,aj⟩: ∃s0,s0=u8 c 0:=⟨_,rfl⟩
 by_cases hz:u8 c 0=0
 ·have f:=yH (az.out.trans (if_pos hz))
  have d:=yH (X.out (by rw[f.out];decide))
  rw[hz]at x0
  clear aj
  go_wp2_with(refine wpList_store_row rfl 179 (.tmp 4) (.tmp 44) rfl w.heap.size _ rfl rfl 179 _ RX.out aAD rfl aCt ?_)
  refine bodyPost_ret (v:= .tuple #[entV 0 0 0 (fun _=>0) 0 none 0 0,.int .i64 13]) (by exact aAr Tryz.results151 _ _ w.heap.size 179 _ (0,0) _ _ rfl rfl (Blk.setRow RX.out zL) Tryz.underlying179 rfl aAD) rfl ?_
  unfold EntTold2
  rw[d.out.1,d.out.1,d.out.1,d.out.1,d.out.2.1,d.out.2.2,f.out]
  exact⟨none,0,rfl,aAi WX.out (yR _) _,aBh _ _ _ _,fun b g e=>by cases e⟩
 have E:=az.out.trans (if_neg hz)
 rw[au.out]at E
 have ao:=yH E
 have a2:(u8 c 0==0)=false:=by simpa using hz
 obtain⟨b,g,rfl,aD,H⟩:=D1.out.spot (by rw[y.out];omega)
 have aH:=yH H
 clear E H aj
 go_wp2_with fail
 go_loopw [9] (fun i wr=> ∃j:Nat,j≤16∧i= .int .i64 (j:Int)∧Hid (Blk wr w2.heap.size (entL (u8 c 0) (u8 c 8) (u8 c 16) (Kp c j) (u8 c 40) none 0 0) 179)∧Hid (Below w2.heap.size w2 wr)) (fun i _=>16-(intOf i).toNat)
 case atStart=>exact⟨0,by omega,rfl,X0,BX⟩
 case round=>
  obtain⟨j,hj,rfl,hx,N⟩:=hrel
  by_cases hlt:j<16
  ·have aK:=(N.out.cell (p:=⟨b,g+(24+j),none⟩) aD).trans (aH.out (24+j) (by rw[y.out];omega))
   obtain⟨u,hu⟩:=ent_cell hx.out j hlt
   have a1:=hx.out.frozen (3+j)
   have ai:c.getD (24+j) 0=itK c j:=(if_pos hlt).symm
   rw[ai]at aK
   have aW:=yH (show Blk (wr.setCell ⟨w2.heap.size,3+j,none⟩ (.int .u8 (itK c j))) w2.heap.size (entL (u8 c 0) (u8 c 8) (u8 c 16) (Kp c (j+1)) (u8 c 40) none 0 0) 179 from aPG c j hlt (u8 c 0) (u8 c 8) (u8 c 16) (u8 c 40) none 0 0▸hx.out.set_ (3+j) (.int .u8 (itK c j)))
   have a8:(0:Int)≤(j:Int):=by omega
   have G:(j:Int)<16:=by omega
   generalize itK c j=kv at*
   clear ai
   go_wp2
   go_roundw
   case rel=>exact⟨j+1,by omega,by go_num,aW,yH (N.out.setCell (yR _) _)⟩
   case measure=>simp[intOf];omega
  ·have G:j=16:=by omega
   have a3: ¬(j:Int)<16:=by omega
   have af:=hx.out
   rw[G,aPH]at af
   clear G
   have al:=yH af
   have aB:=yH N.out
   clear hx af N X0 BX RX WX x0
   rename World=>wA
   go_wp2_with fail
   go_loopw [10] (fun i wr=> ∃(q:Nat) (C:Option Addr) (L:Nat),q≤t∧i= .int .i64 ((48+16*q:Nat):Int)∧Hid (Blk wr w2.heap.size (entL (u8 c 0) (u8 c 8) (u8 c 16) (itK c) (u8 c 40) C q L) 179)∧Hid (OwnE 175 2 wr (w2.heap.size+1) C q L (two (itA c) (itH c) q))∧Hid (risB (itA c) q=true)∧Hid (Below w2.heap.size w2 wr)) (fun i _=>48+16*t-(intOf i).toNat)
   case atStart=>exact⟨0,none,0,Nat.zero_le _,rfl,al,OwnE.nil _ _ (Nat.succ_le_of_lt al.out.lt),yH rfl,aB⟩
   case round=>
    obtain⟨q,C,L,hq,rfl,he,ho,ae,M⟩:=hrel
    have aw:=he.out.cell (i:=20) rfl
    have RX:=yH (I.out.below M.out D.out)
    have WX:=yH (r.out.trans (M.out.mono r.out.size))
    by_cases hlt:q<t
    ·have Dr:=yH (D1.out.below M.out (yR _)).drew
     have aJ:=yH (aMC (itA c) (itH c) q)
     have aU:=yH (show itA c q=u8 c (48+16*q)from rfl)
     have aM:=yH (show itH c q=u8 c (48+16*q+8)from rfl)
     have ay:=yH (show Blk (wr.alloc (.cells #[.int .u64 (u8 c (48+16*q)),.int .u64 (u8 c (48+16*q+8))] 175)).drew wr.heap.size [.int .u64 (u8 c (48+16*q)),.int .u64 (u8 c (48+16*q+8))] 175 from Blk.new wr _ _)
     have aL:=he.out.lt
     have Na:=yH ((Below.refl wr.heap.size wr).alloc (yR _) (.cells #[.int .u64 (u8 c (48+16*q)),.int .u64 (u8 c (48+16*q+8))] 175)).drew
     have u1:wr.drew.cell? ⟨w2.heap.size,20,none⟩=some (.slice C q L):=aw
     have v1:=(Na.out.cell (p:=⟨w2.heap.size,20,none⟩) aL).trans aw
     have a0:((48+16*q:Nat):Int)<((48+16*t:Nat):Int):=by omega
     have aR:IntKind.u64.wrap (48+16*(q:Int))=48+16*(q:Int):=by rw[IntKind.wrap_u64];omega
     have aN:IntKind.i64.wrap (48+16*(q:Int)+8)=48+16*(q:Int)+8:=by rw[IntKind.wrap_i64];omega
     have ar:IntKind.u64.wrap (48+16*(q:Int)+8)=48+16*(q:Int)+8:=by rw[IntKind.wrap_u64];omega
     go_wp2_with fail
     have a6:=ae
     go_cut [10]from 66 to 79 (fun z wx=> ∃(A2:Option Addr) (c2:Nat),z= .int .i64 ((48+16*q:Nat):Int)∧Hid (Blk wx w2.heap.size (entL (u8 c 0) (u8 c 8) (u8 c 16) (itK c) (u8 c 40) A2 (q+1) c2) 179)∧Hid (OwnE 175 2 wx (w2.heap.size+1) A2 (q+1) c2 (two (itA c) (itH c) (q+1)))∧Hid (Below w2.heap.size w2 wx))
     case first=>
      go_region_law (first
       |(refine aBT aMF (o:=⟨some 79,_,_,_,_,_⟩) rfl (.tmp 67) (.tmp 78) rfl (w2.heap.size+1) C q L _ rfl ((ho.out.alloc (.cells #[.int .u64 (u8 c (48+16*q)),.int .u64 (u8 c (48+16*q+8))] 175)).drew) ⟨wr.heap.size,0,none⟩ 1 1 [.int .u64 (u8 c (48+16*q)),.int .u64 (u8 c (48+16*q+8))] rfl rfl (Blk.news ay.out) (by intro u hu;simp at hu;rcases hu with rfl|rfl<;>rfl) (by omega) (by omega) ?_;intro A2 c2 w4 ad ap;rw[←aU.out,←aM.out,←aJ.out]at ad;have aQ:=yH ad;have aq:=((Below.refl wr.heap.size wr).alloc (yR _) (.cells #[.int .u64 (u8 c (48+16*q)),.int .u64 (u8 c (48+16*q+8))] 175)).drew;have ab:=Below.trans (aq.mono (by omega:w2.heap.size+1≤wr.heap.size)) ap;have aF:=yH (M.out.trans (ab.mono (Nat.le_succ _)));have E4:=yH (he.out.below ab (Nat.lt_succ_self _));have x1:=E4.out.cell (i:=20) rfl;have y1:=E4.out.frozen 20;clear ad ap aq ab)
       |(go_simp;go_at_call 94;(first|(with_reducible refine(x.out (48+16*q) _ _ _ _ _ Dr.out y.out (by omega) (by omega) (by omega)).mono ?_)|(with_reducible refine(x.out (48+16*q+8) _ _ _ _ _ Dr.out y.out (by omega) (by omega) (by omega)).mono ?_));rintro e w' ⟨rfl,rfl⟩))
      all_goals
       go_wp2_with fail
       go_meet
       case rel=>exact⟨A2,c2,rfl,yH (E4.out.set_ 20 _),yH (OwnE.farE aQ.out (by simp) _),yH (aF.out.setCell (yR _) _)⟩
     case rest=>
      rename World=>W5
      obtain⟨A2,c2,rfl,E5,O5,B5⟩:=hcut
      clear u1 v1 aR aN ar Na ay Dr
      have R5:=yH (I.out.below B5.out.drew D.out)
      have aV:=yH (r.out.trans (B5.out.drew.mono r.out.size))
      have a5:W5.drew.cell? ⟨w2.heap.size,20,none⟩=some (.slice A2 (q+1) c2):=E5.out.cell (i:=20) rfl
      rcases Nat.eq_zero_or_pos q with av|av
      ·subst av
       go_wp2_with fail
       go_region
       all_goals
        go_wp2
        go_roundw
        case rel=>exact⟨1,A2,c2,by omega,by go_num,yH E5.out.drew,yH O5.out.drew,yH rfl,yH B5.out.drew⟩
        case measure=>simp[intOf];omega
      ·obtain⟨p,rfl⟩: ∃p,q=p+1:=⟨q-1,by omega⟩
       have hI:=own_in2 O5.out.drew (fun i _=>aCE Y.out _) (fun i _=>aCE Y.out _)
       obtain⟨g5,o5,ea,bh,k1,_⟩:=hI (p+1) (by omega)
       obtain⟨g6,o6,eb,_,k2,_⟩:=hI p (by omega)
       rw[ea]at eb
       simp at eb
       obtain⟨rfl,rfl⟩:=eb
       subst ea
       have hs:=aGU (itA c) (p+1) (by omega)
       rw[ae.out,Bool.true_and]at hs
       have hg:decide ((0:Int)<((p+1:Nat):Int))=true:=decide_eq_true (by omega)
       have bf:(0:Int)<((p+1:Nat):Int):=by omega
       have hw:IntKind.i64.wrap (((p+1:Nat):Int)-1)=(p:Int):=by rw[IntKind.wrap_i64];omega
       have bb:((p+1:Nat):Int)-1=(p:Int):=by omega
       have a9:(0:Int)≤(p:Int):=by omega
       have a7:(p:Int)<((p+1+1:Nat):Int):=by omega
       have a4:((p+1:Nat):Int)<((p+1+1:Nat):Int):=by omega
       by_cases bg:itA c (p+1)≤itA c p
       ·have hf:risB (itA c) t=false:=by
         cases hq:risB (itA c) t with
         |false=>rfl
         |true=>
          have h3:=aGV (m:=p+2) hq (by omega)
          rw[hs]at h3
          have h4:itA c p<itA c (p+1):=by simpa using h3
          omega
        have f:=yH (ao.out.trans (if_neg (by rw[hf];decide)))
        have d:=yH (X.out (by rw[f.out];decide))
        clear hs hf hI
        go_wp2_with fail
        go_region
        all_goals
         go_wp2_with(refine wpList_store_row rfl 179 (.tmp 4) (.tmp 99) rfl w.heap.size _ rfl rfl 179 _ R5.out aAD rfl aCt ?_)
         refine bodyPost_ret (v:= .tuple #[entV 0 0 0 (fun _=>0) 0 none 0 0,.int .i64 11]) (by exact aAr Tryz.results151 _ _ w.heap.size 179 _ (0,0) _ _ rfl rfl (Blk.setRow R5.out zL) Tryz.underlying179 rfl aAD) rfl ?_
         unfold EntTold2
         rw[d.out.1,d.out.1,d.out.1,d.out.1,d.out.2.1,d.out.2.2,f.out]
         exact⟨none,0,rfl,aAi aV.out (yR _) _,aBh _ _ _ _,fun b g e=>by cases e⟩
       ·have aO:=yH (show risB (itA c) (p+2)=true by rw[hs];exact decide_eq_true (show itA c (p+1-1)<itA c (p+1)by rw[Nat.add_sub_cancel];omega))
        clear hs hI
        go_wp2_with fail
        go_region
        all_goals
         go_wp2
         go_roundw
         case rel=>exact⟨p+2,some ⟨g5,o5,none⟩,c2,by omega,by go_num,yH E5.out.drew,yH O5.out.drew,aO,yH B5.out.drew⟩
         case measure=>simp[intOf];omega
    ·obtain rfl:q=t:=by omega
     have f:=yH (ao.out.trans (if_pos ae.out))
     have d:=yH (aC.out f.out)
     have HI:=yH (own_in2 ho.out (fun i _=>aCE Y.out _) (fun i _=>aCE Y.out _))
     have aX:=yH (fun b g (e:C=some ⟨b,g,none⟩)=>show b≠w.heap.size by
      have h1:=Dc.OwnE.ltB ho.out b (by rw[e];rfl)
      have h2:=D.out
      omega)
     have aI:=yH (fun b g (e:C=some ⟨b,g,none⟩)=>show w.heap.size≤b by
      have h1:=Dc.OwnE.ltB ho.out b (by rw[e];rfl)
      have h2:=D.out
      omega)
     go_wp2_with(first
      |(refine wpList_load_row rfl 179 (.tmp 8) rfl w2.heap.size rfl 179 (entL (u8 c 0) (u8 c 8) (u8 c 16) (itK c) (u8 c 40) C q L).toArray (0,0) _ he.out Tryz.underlying179 rfl aAD ?_)
      |(refine wpList_store_row rfl 179 (.tmp 4) (.tmp 100) rfl w.heap.size (entL (u8 c 0) (u8 c 8) (u8 c 16) (itK c) (u8 c 40) C q L).toArray rfl rfl 179 _ RX.out aAD rfl (aBB _ _ _ _ _ _ _ _) ?_))
     refine bodyPost_ret (v:= .tuple #[entV (u8 c 0) (u8 c 8) (u8 c 16) (itK c) (u8 c 40) C q L,.int .i64 0]) (by exact aAr Tryz.results151 _ _ w.heap.size 179 _ (0,0) _ _ rfl rfl (Blk.setRow RX.out (entL (u8 c 0) (u8 c 8) (u8 c 16) (itK c) (u8 c 40) C q L)) Tryz.underlying179 rfl aAD) rfl ?_
     unfold EntTold2
     obtain⟨t0,t8,aE,aY,tK,tN⟩:=d.out
     rw[t0,t8,aE,aY,tK,tN,f.out,au.out,aP.out]
     exact⟨C,L,rfl,aAi WX.out (yR _) _,In2.setRow HI.out (fun b g e=>aX.out b g e) _,aI.out⟩
end Yn
namespace Mb
open Bytes8 Blk8 Own8 OwnE LeNum Ob Od Ma Kf
theorem aId (k:Nat)(w:World):Calls Tryz.prog 136 #[.int .i64 (k:Int)] w fun e w'=>e= .returned (.int .i64 (roomN k:Nat))∧w=w':=by
 by_cases h:6<k
 ·have a:decide ((6:Int)<(k:Int))=true:=by simp;omega
  rw[show roomN k=256 by unfold roomN;rw[if_pos h]]
  go_enter Tryz.func136,Tryz.ntmps136
  go_wp2
  go_ret
  exact⟨rfl,rfl⟩
 ·rcases k with _|_|_|_|_|_|_|k
  all_goals first
   |omega
   |(go_enter Tryz.func136,Tryz.ntmps136
     go_wp2
     go_ret
     exact⟨rfl,rfl⟩)
theorem aOu {w:World}{base g n c:Nat}{l:List Int}(h:Own w base (some ⟨g,0,none⟩) n c l)(i:Nat){x:Int}(a:0≤x)(b:x<256):Own (w.setCell ⟨g,i,none⟩ (.int .u8 x)) base (some ⟨g,0,none⟩) n c (l.set i x):=by
 refine⟨h.1.set i a b,by rw[List.length_set];exact h.2.1,by simpa using h.2.2.1,?_⟩
 have:=(h.2.2.2.stored i (.int .u8 x)).1
 rw[List.map_set]
 exact this
theorem aEI {w:World}{base g n c:Nat}{l:List Int}(h:Own w base (some ⟨g,0,none⟩) n c l):base≤g∧g<w.heap.size:=h.lt g rfl
structure Put8 (bb:Nat)(w w':World):Prop where
 kept:KeptF (One bb) w w'
 size:w'.heap.size=w.heap.size
theorem Put8.refl (a:Nat)(w:World):Put8 a w w:=⟨KeptF.refl _ _,rfl⟩
theorem Put8.set {a:Nat}{w0 w:World}(h:Put8 a w0 w)(i:Nat)(u:Value):Put8 a w0 (w.setCell ⟨a,i,none⟩ u):=⟨h.kept.setCell (p:=⟨a,i,none⟩) (fun _=>(rfl:a=a)) u,by simpa using h.size⟩
theorem Put8.trans {d:Nat}{a b c:World}(h:Put8 d a b)(k:Put8 d b c):Put8 d a c:=⟨h.kept.trans k.kept fun _ _ h=>h,k.size.trans h.size⟩
theorem aCu {F:Nat→Prop}{w w':World}{g:Nat}{a:List Value}{T:TypeId}(h:Blk w g a T)(b:KeptF F w w')(c: ¬F g):Blk w' g a T:=(b.block g h.lt c).trans h
theorem put_any (g c cb n a:Nat)(q:List Value)(T:TypeId)(l:List Int)(v:Int)(B:Nat)(w:World)(hs:Blk w g q T)(r:q[143]? =some (.slice (some ⟨c,0,none⟩) n cb))(p:Own w B (some ⟨c,0,none⟩) n cb l)(j:g≠c)(F:a+8≤n)(E:n≤4000000):
 Calls Tryz.prog 83 #[.pointer (some ⟨g,0,none⟩),.int .u64 (a:Int),.int .u64 v] w fun e w'=>e= .returned (.tuple #[])∧Own w' B (some ⟨c,0,none⟩) n cb (put8 l a v)∧Put8 c w w':=by
 have A:=yH hs
 have t:=yH r
 have x:=yH p.2.1
 clear hs r
 go_enter Tryz.func83,Tryz.ntmps83
 go_wp2
 go_loopw [6] (fun i wr=> ∃k:Nat,k≤8∧i= .int .i64 (k:Int)∧Hid (Own wr B (some ⟨c,0,none⟩) n cb (over l a (lowB v k)))∧Hid (Put8 c w wr)) (fun i _=>8-(intOf i).toNat)
 case atStart=>exact⟨0,Nat.zero_le _,rfl,yH (by rw[show lowB v 0=[]from rfl,aMl];exact p),yH (Put8.refl _ _)⟩
 case round=>
  obtain⟨k,G,rfl,f,m⟩:=hrel
  by_cases y:k<8
  ·have D:=(aCu A.out m.out.kept j).cell t.out
   have b:=f.out.2.2.2.cellAt (a+k) (by omega)
   have u:=f.out.2.2.2.frozenAt (a+k)
   obtain⟨z,h⟩: ∃z,(over l a (lowB v k))[a+k]? =some z:=⟨_,List.getElem?_eq_getElem (by rw[f.out.2.1];omega)⟩
   rw[List.getElem?_map,h]at b
   clear h
   have d:=yH (aOu f.out (a+k) (Int.emod_nonneg (v/256^k) (by decide:(256:Int)≠0)) (Int.emod_lt_of_pos (v/256^k) (by decide)))
   rw[show(over l a (lowB v k)).set (a+k) (v/256^k%256)=over l a (lowB v (k+1))by
    have e:=aJ6 l a (lowB v k) (v/256^k%256) (by rw[aAj,x.out];omega)
    rw[aAj]at e
    rw[aDL,e]]at d
   rw[←aDK]at d
   have s:a+k<n:=by omega
   generalize o:a+k=C at*
   go_wp2
   go_roundw
   case rel=>exact⟨k+1,by omega,by go_num,d,yH (m.out.set _ _)⟩
   case measure=>simp[intOf];omega
  ·obtain rfl:k=8:=by omega
   go_wp2
   go_end0
   exact⟨rfl,f.out,m.out⟩
theorem aF2 (g b cb n a:Nat)(z:Int)(j:z=(a:Int))(c:List Value)(T:TypeId)(l:List Int)(v:Int)(B:Nat)(w:World)(hs:Blk w g c T)(k:c[143]? =some (.slice (some ⟨b,0,none⟩) n cb))(f:Own w B (some ⟨b,0,none⟩) n cb l)(d:g≠b)(i:a+8≤n)(h:n≤4000000):
 Calls Tryz.prog 83 #[.pointer (some ⟨g,0,none⟩),.int .u64 z,.int .u64 v] w fun e w'=>e= .returned (.tuple #[])∧Own w' B (some ⟨b,0,none⟩) n cb (put8 l a v)∧Put8 b w w':=by
 subst j;exact put_any g b cb n a c T l v B w hs k f d i h
end Mb
namespace Mc
open Bytes8 Blk8 Own8 OwnA OwnE Ob Od Ga Ma Kf Mb
structure Sl where
 b:Value
 d:Value
 f:Value
 m:Value
def Cf.at_ (C:Cf)(i:Nat):Value:=
 if i<48 then(if i<16 then .int .u8 (C.F i)else if i<32 then .int .u8 (C.M (i-16))else .int .u8 (C.S (i-32)))
 else if i=48 then .int .i64 (C.ds:Int)else if i=49 then .int .i64 (C.fs:Int)else if i=50 then .int .i64 (C.most:Int)else .bool C.keyed
def Mk.at_ (m:Mk)(S:Sl)(i:Nat):Value:=
 if i<142 then(if i<52 then Cf.at_ m.C i else m.h.at_ 20 (i-52))
 else if i=142 then .int .u64 (m.depth:Int)else if i=143 then S.b else if i=144 then S.d else if i=145 then S.f else S.m
def Mk.cells (m:Mk)(S:Sl):List Value:=(List.range 147).map (Mk.at_ m S)
theorem Mk.len (m:Mk)(S:Sl):(Mk.cells m S).length=147:=by simp[Mk.cells]
theorem Mk.get (m:Mk)(S:Sl)(i:Nat)(a:i<147):(Mk.cells m S)[i]? =some (Mk.at_ m S i):=by simp[Mk.cells,a]
theorem Mk.get_N (m:Mk)(S:Sl)(i:Nat)(a:i<20):(Mk.cells m S)[119+i]? =some (.int .u64 (m.h.N i)):=by
 rw[Mk.get m S _ (by omega)]
 unfold Mk.at_
 rw[if_pos (by omega),if_neg (by omega),show 119+i-52=67+i by omega]
 have:=m.h.get_N 20 i a
 rw[m.h.get 20 _ (by omega)]at this
 exact this
theorem Mk.get_depth (m:Mk)(S:Sl):(Mk.cells m S)[142]? =some (.int .u64 (m.depth:Int)):=by rw[Mk.get m S _ (by decide)];rfl
theorem Mk.get_b (m:Mk)(S:Sl):(Mk.cells m S)[143]? =some S.b:=by rw[Mk.get m S _ (by decide)];rfl
theorem Mk.get_d (m:Mk)(S:Sl):(Mk.cells m S)[144]? =some S.d:=by rw[Mk.get m S _ (by decide)];rfl
theorem Mk.get_f (m:Mk)(S:Sl):(Mk.cells m S)[145]? =some S.f:=by rw[Mk.get m S _ (by decide)];rfl
theorem Mk.get_m (m:Mk)(S:Sl):(Mk.cells m S)[146]? =some S.m:=by rw[Mk.get m S _ (by decide)];rfl
theorem Mk.get_ds (m:Mk)(S:Sl):(Mk.cells m S)[48]? =some (.int .i64 (m.C.ds:Int)):=by rw[Mk.get m S _ (by decide)];rfl
theorem Mk.get_fs (m:Mk)(S:Sl):(Mk.cells m S)[49]? =some (.int .i64 (m.C.fs:Int)):=by rw[Mk.get m S _ (by decide)];rfl
theorem Mk.get_most (m:Mk)(S:Sl):(Mk.cells m S)[50]? =some (.int .i64 (m.C.most:Int)):=by rw[Mk.get m S _ (by decide)];rfl
theorem Mk.get_F (m:Mk)(S:Sl)(i:Nat)(a:i<16):(Mk.cells m S)[i]? =some (.int .u8 (m.C.F i)):=by
 rw[Mk.get m S _ (by omega)]
 unfold Mk.at_ Cf.at_
 rw[if_pos (by omega),if_pos (by omega),if_pos (by omega),if_pos a]
abbrev fileV (C:Cf):List Value:=[.int .u8 (C.F 0),.int .u8 (C.F 1),.int .u8 (C.F 2),.int .u8 (C.F 3),.int .u8 (C.F 4),.int .u8 (C.F 5),.int .u8 (C.F 6),.int .u8 (C.F 7),.int .u8 (C.F 8),.int .u8 (C.F 9),.int .u8 (C.F 10),.int .u8 (C.F 11),.int .u8 (C.F 12),.int .u8 (C.F 13),.int .u8 (C.F 14),.int .u8 (C.F 15)]
theorem Mk.file_range {w:World}{g:Nat}{T:TypeId}{m:Mk}{S:Sl}(b:Blk w g (Mk.cells m S) T):w.rangeAt g 0 (fileV m.C):=fun j v hj=>by
 have c:j<16:=(List.getElem?_eq_some_iff.1 hj).1
 have a:=b.cell (Mk.get_F m S j c)
 have e:(fileV m.C)[j]? =some (.int .u8 (m.C.F j)):=by
  rcases j with _|_|_|_|_|_|_|_|_|_|_|_|_|_|_|_|j
  all_goals first|rfl|omega
 rw[e]at hj
 injection hj with hj
 subst hj
 rw[Nat.zero_add]
 exact a
theorem Mk.get_keyed (m:Mk)(S:Sl):(Mk.cells m S)[51]? =some (.bool m.C.keyed):=by rw[Mk.get m S _ (by decide)];rfl
theorem aBo (f b:Nat→Value)(n i:Nat)(v:Value)(g:b i=v)(d: ∀j,j≠i→b j=f j):((List.range n).map f).set i v=(List.range n).map b:=by
 apply List.ext_getElem?
 intro j
 rw[List.getElem?_set]
 by_cases a:j<n
 ·by_cases c:i=j
  ·subst c
   simp[a,g]
  ·rw[if_neg c]
   simp[a,d j (fun e=>c e.symm)]
 ·simp[a]
  omega
theorem at_N (m:Mk)(S:Sl)(i:Nat)(a:i<20):Mk.at_ m S (119+i)= .int .u64 (m.h.N i):=by
 have:=Mk.get_N m S i a
 rw[Mk.get m S _ (by omega)]at this
 injection this
theorem Mk.set_N (m:Mk)(S:Sl)(i:Nat)(e:i<20)(v:Int):(Mk.cells m S).set (119+i) (.int .u64 v)=Mk.cells {m with h:=setN m.h i v} S:=by
 refine aBo _ _ _ _ _ ?_ fun j hj=>?_
 ·rw[at_N _ _ _ e];simp[setN]
 ·unfold Mk.at_
  by_cases b:j<142
  ·rw[if_pos b,if_pos b]
   by_cases a:j<52
   ·rw[if_pos a,if_pos a]
   ·rw[if_neg a,if_neg a]
    unfold HD.at_
    simp only[setN]
    by_cases d:j-52<67+20
    ·by_cases c:j-52<67
     ·simp only[c,if_true]
     ·rw[if_neg (by omega),if_neg c,if_pos d,if_neg (by omega),if_neg c,if_pos d,if_neg (by omega)]
    ·simp only[d,if_false]
  ·rw[if_neg b,if_neg b]
theorem Mk.set_Nk (m:Mk)(S:Sl)(i k:Nat)(a:i<20)(b:k=119+i)(v:Int):(Mk.cells m S).set k (.int .u64 v)=Mk.cells {m with h:=setN m.h i v} S:=by subst b;exact Mk.set_N m S i a v
theorem Mk.get_Nk (m:Mk)(S:Sl)(i k:Nat)(a:i<20)(b:k=119+i):(Mk.cells m S)[k]? =some (.int .u64 (m.h.N i)):=by subst b;exact Mk.get_N m S i a
theorem Mk.set_depth (m:Mk)(S:Sl)(v:Nat):(Mk.cells m S).set 142 (.int .u64 (v:Int))=Mk.cells {m with depth:=v} S:=
 aBo _ _ _ _ _ rfl fun j hj=>by
  unfold Mk.at_
  by_cases a:j<142
  ·rw[if_pos a,if_pos a]
  ·rw[if_neg a,if_neg a,if_neg hj,if_neg hj]
theorem Mk.set_b (m:Mk)(S:Sl)(v:Value):(Mk.cells m S).set 143 v=Mk.cells m {S with b:=v}:=
 aBo _ _ _ _ _ rfl fun j hj=>by
  unfold Mk.at_
  by_cases a:j<142
  ·rw[if_pos a,if_pos a]
  ·rw[if_neg a,if_neg a,if_neg hj,if_neg hj]
theorem Mk.set_d (m:Mk)(S:Sl)(v:Value):(Mk.cells m S).set 144 v=Mk.cells m {S with d:=v}:=
 aBo _ _ _ _ _ rfl fun j hj=>by
  unfold Mk.at_
  by_cases a:j<142
  ·rw[if_pos a,if_pos a]
  ·rw[if_neg a,if_neg a,if_neg hj,if_neg hj]
theorem Mk.set_f (m:Mk)(S:Sl)(v:Value):(Mk.cells m S).set 145 v=Mk.cells m {S with f:=v}:=
 aBo _ _ _ _ _ rfl fun j hj=>by
  unfold Mk.at_
  by_cases a:j<142
  ·rw[if_pos a,if_pos a]
  ·rw[if_neg a,if_neg a,if_neg hj,if_neg hj]
theorem Mk.set_m (m:Mk)(S:Sl)(v:Value):(Mk.cells m S).set 146 v=Mk.cells m {S with m:=v}:=by
 refine(List.ext_getElem? fun j=>?_)
 rw[List.getElem?_set]
 by_cases e:j<147
 ·by_cases f:146=j
  ·subst f
   rw[if_pos rfl,if_pos (by rw[Mk.len];decide),Mk.get _ _ _ e]
   rfl
  ·rw[if_neg f,Mk.get _ _ _ e,Mk.get _ _ _ e]
   unfold Mk.at_
   by_cases c:j<142
   ·rw[if_pos c,if_pos c]
   ·rw[if_neg c,if_neg c]
    by_cases a:j=142
    ·rw[if_pos a,if_pos a]
    ·rw[if_neg a,if_neg a]
     by_cases d:j=143
     ·rw[if_pos d,if_pos d]
     ·rw[if_neg d,if_neg d]
      by_cases b:j=144
      ·rw[if_pos b,if_pos b]
      ·rw[if_neg b,if_neg b,if_pos (by omega),if_pos (by omega)]
 ·rw[if_neg (by omega),List.getElem?_eq_none (by rw[Mk.len];omega),List.getElem?_eq_none (by rw[Mk.len];omega)]
theorem Mk.cells_same {m m':Mk}(b:m.C=m'.C)(a:m.h=m'.h)(c:m.depth=m'.depth)(S:Sl):Mk.cells m S=Mk.cells m' S:=by
 unfold Mk.cells
 congr 1
 funext i
 unfold Mk.at_
 rw[b,a,c]
theorem aDY {w:World}{b:Array Oper}{rest:List Oper}{o:Oper}{a:Act}{Q:Exit→Act→World→Prop}(j:o.guard=none)(s x:Operand)
 (i:o.op= .call {callee:= .builtin .append,args:= #[s,x],argTypes:= #[24,24]})
 (base e:Nat)(n c:Nat)(l:List Int)(hs:a.eval s= .slice (some ⟨e,0,none⟩) n c)(z:Own w base (some ⟨e,0,none⟩) n c l)(J:0<n)(k:Option Addr)(m q:Nat)(d:List Int)(A:a.eval x= .slice k m q)(t:Bytes w k d)(B:d.length=m)(p:n+m≤70368744177664)
 (h: ∀b' f w',Own w' base (some ⟨b',0,none⟩) (n+m) f (l++d)→w.grownBy w' (some e)→(b'=e∨b'=w.heap.size)→wpList Tryz.prog b Q rest (a.put o.dst (.slice (some ⟨b',0,none⟩) (n+m) f)) w'):wpList Tryz.prog b Q (o::rest) a w:=
 wpList_plain j fun K hK=>by
  obtain⟨L,f,w',v,r,u,F⟩:=aCR w o.type base _ n c l z k m q d t B p
  unfold Oper.wp execOp
  simp only[i,resolve,invoke,builtin,Sem.run_bind,Sem.run_pure,Result.andThen_ok,List.map_toArray,List.map_cons,List.map_nil,hs,A,v]
  rcases r.2.2.2.2 with⟨H,G⟩|⟨g,y,D,E,C,I,_⟩
  ·exfalso;omega
  ·injection E with e1 e2 e3
   subst e1
   refine hK _ _ (h g f w' r u ?_)
   simpa [ownB]using F
end Mc
namespace Md
open Bytes8 Blk8 Own8 OwnM OwnE Od Ga Ma Kf Mb Mc
structure MkB (w:World)(B g bb cb:Nat)(S:Sl)(m:Mk):Prop where
 st:Blk w g (Mk.cells m {S with b:= .slice (some ⟨bb,0,none⟩) m.b.length cb}) 157
 own:Own w B (some ⟨bb,0,none⟩) m.b.length cb m.b
 ne:g≠bb
def Two (g bb:Nat)(k:Nat):Prop:=k=g∨k=bb
theorem MkB.put {w w':World}{B g a cb:Nat}{S:Sl}{m:Mk}(h:MkB w B g a cb S m){l:List Int}(c:l.length=m.b.length)(d:Own w' B (some ⟨a,0,none⟩) m.b.length cb l)(e:Put8 a w w'):MkB w' B g a cb S {m with b:=l}:=
 ⟨by show Blk w' g (Mk.cells m {S with b:= .slice (some ⟨a,0,none⟩) l.length cb}) _
     rw[c];exact aCu h.st e.kept h.ne,by show Own w' B _ l.length cb l;rw[c];exact d,h.ne⟩
def LongB (w:World)(B g bb:Nat)(S:Sl)(m:Mk)(w':World):Prop:= ∃bb' cb',MkB w' B g bb' cb' S m∧(bb'=bb∨w.heap.size≤bb')∧KeptF (Two g bb) w w'
attribute [local irreducible] Mk.cells wpList Code.wp
theorem aEJ (B g u cb:Nat)(S:Sl)(m:Mk)(H:Option Addr)(k Z:Nat)(a:List Int)(w:World)(h:MkB w B g u cb S m)(hb:Bytes w H a)(L:a.length=k)(h0:0<m.b.length)(hn:m.b.length+k≤4000000)(h7:0≤m.h.N 7∧m.h.N 7≤1000000)(hg:B≤g):
 Calls Tryz.prog 79 #[.pointer (some ⟨g,0,none⟩),.slice H k Z] w fun e w'=>e= .returned (.int .u64 (m.b.length:Nat))∧LongB w B g u S (m.object a) w':=by
 obtain⟨hs,Y,v⟩:=h
 generalize V:m.b.length=n at*
 have E:=yH V
 have y:=yH hs
 have HO:=yH Y
 have c3:=y.out.cell (Mk.get_b _ _)
 have f3:=y.out.frozen 143
 have aa:=y.out.lt
 clear hs Y V
 go_enter Tryz.func79,Tryz.ntmps79
 go_upto_region 4 with(refine aDY rfl (.tmp 16) (.tmp 17) rfl B u n cb m.b rfl HO.out h0 H k Z a rfl hb L (by omega) ?_;intro d f w2 t o s;have z:=yH t;have q:=yH (aAl y.out o v);have M:=yH (KeptF.grow _ o);clear t o;have e3:=q.out.cell (Mk.get_b _ _);have d3:w2.frozen? ⟨g,143,none⟩=false:=q.out.frozen 143;have r:=yH (q.out.set_ 143 (.slice (some ⟨d,0,none⟩) (n+k) f));have e6:=r.out.cell (i:=125) ((List.getElem?_set_ne (by decide)).trans (Mk.get_Nk _ _ 6 125 (by decide) rfl));have d6:(w2.setCell ⟨g,143,none⟩ (.slice (some ⟨d,0,none⟩) (n+k) f)).frozen? ⟨g,125,none⟩=false:=r.out.frozen 125)
 have l:g≠d:=by
  rcases s with h|h
  ·rw[h];exact v
  ·omega
 obtain⟨D,c⟩: ∃x,x=(w2.setCell ⟨g,143,none⟩ (.slice (some ⟨d,0,none⟩) (n+k) f)).setCell ⟨g,125,none⟩ (.int .u64 (n:Int)):=⟨_,rfl⟩
 have A:=r.out.set_ 125 (.int .u64 (n:Int))
 rw[Mk.set_b,Mk.set_Nk _ _ 6 125 (by decide) rfl,←c]at A
 have J:=yH A
 have d7:=J.out.cell (Mk.get_Nk _ _ 7 126 (by decide) rfl)
 have g7:=J.out.frozen 126
 rw[show(setN m.h 6 (n:Int)).N 7=m.h.N 7 from rfl]at d7
 have G:=yH (show Own D B (some ⟨d,0,none⟩) (n+k) f (m.b++a)by
  have h1:Own (w2.setCell ⟨g,143,none⟩ (.slice (some ⟨d,0,none⟩) (n+k) f)) B (some ⟨d,0,none⟩) (n+k) f (m.b++a):=Kf.Own.keptF z.out (KeptF.set1 w2 g 143 _) (fun j hj e=>l (by injection hj with hj;exact(e.symm.trans hj.symm)))
  rw[c]
  exact Kf.Own.keptF h1 (KeptF.set1 _ g 125 _) (fun j hj e=>l (by injection hj with hj;exact(e.symm.trans hj.symm))))
 have C:=yH (show KeptF (Two g u) w D by
  rw[c]
  exact(KeptF.setCell (p:=⟨g,143,none⟩) (F:=Two g u) (M.out.mono (fun i e=>Or.inr (Option.some.inj e).symm)) (fun _=>Or.inl rfl) _).setCell (p:=⟨g,125,none⟩) (fun _=>Or.inl rfl) _)
 clear A
 rw[←c]
 clear c
 have ab:IntKind.u64.wrap (m.h.N 7+1)=m.h.N 7+1:=by rw[IntKind.wrap_u64];omega
 go_region
 go_wp2
 go_ret
 refine⟨rfl,d,f,⟨?_,?_,l⟩,?_,?_⟩
 ·have R:=J.out.set_ 126 (.int .u64 (m.h.N 7+1))
  rw[Mk.set_Nk _ _ 7 126 (by decide) rfl]at R
  have I:(m.object a).b.length=n+k:=by show(m.b++a).length=_;rw[List.length_append,E.out,L]
  rw[I]
  have e:=Mk.cells_same (m:={m with h:=setN (setN m.h 6 (n:Int)) 7 (m.h.N 7+1)}) (m':=m.object a) rfl (by show _=setN (setN m.h 6 ((m.b.length:Nat):Int)) 7 (m.h.N 7+1);rw[E.out]) rfl {S with b:= .slice (some ⟨d,0,none⟩) (n+k) f}
  have X:Blk (D.setCell ⟨g,126,none⟩ (.int .u64 (m.h.N 7+1))) g (Mk.cells {m with h:=setN (setN m.h 6 (n:Int)) 7 (m.h.N 7+1)} {S with b:= .slice (some ⟨d,0,none⟩) (n+k) f}) 157:=R
  rw[e]at X
  exact X
 ·have I:(m.object a).b.length=n+k:=by show(m.b++a).length=_;rw[List.length_append,E.out,L]
  rw[I]
  exact Kf.Own.keptF G.out ((KeptF.set1 _ g 126 _).drew) (fun j hj e=>l (by injection hj with hj;exact(e.symm.trans hj.symm)))
 ·rcases s with h|h
  ·exact .inl h
  ·exact .inr (by omega)
 ·exact(C.out.setCell (p:=⟨g,126,none⟩) (fun _=>Or.inl rfl) _).drew
end Md
namespace Me
open Bytes8 Blk8 Own8 OwnE Od Ga Ma Kf Mb Mc
def Kns (w:World)(A:Option Addr)(ks:List Kn):Prop:= ∀i (h:i<ks.length),∃b,A=some ⟨b,0,none⟩∧b<w.heap.size∧
 w.cell? ⟨b,i*5,none⟩=some (.string (Fa.T ks[i].text))∧w.cell? ⟨b,i*5+1,none⟩=some (.int .u64 (ks[i].at_:Int))∧w.cell? ⟨b,i*5+2,none⟩=some (.int .i64 (ks[i].slot:Int))∧w.cell? ⟨b,i*5+3,none⟩=some (.int .i64 (ks[i].count:Int))
theorem aEK {l:List Kn}{slot:Nat}(h:inSlot l slot≠0): ∃k∈l,lastIn l slot=k.at_:=by
 unfold inSlot at h
 unfold lastIn
 rcases hf:(l.filter fun k=>k.slot==slot).getLast? with _|k
 ·rw[List.getLast?_eq_none_iff]at hf
  rw[hf]at h
  exact absurd rfl h
 ·have:=List.mem_of_getLast? hf
  exact⟨k,(List.mem_filter.1 this).1,by rw[hf];rfl⟩
theorem aCv (l:List Kn)(slot:Nat):inSlot l slot≤l.length:=List.length_filter_le _ _
attribute [local irreducible] Mk.cells wpList Code.wp
theorem aIe (g z cb n c a slot len aa:Nat)(J:List Value)(T:TypeId)(l:List Int)(A:Option Addr)(d:List Kn)(B:Nat)(w:World)(hs:Blk w g J T)(h3:J[143]? =some (.slice (some ⟨z,0,none⟩) n cb))(hb:Own w B (some ⟨z,0,none⟩) n cb l)(o:g≠z)(Y:n≤4000000)
 (hk:Kns w A d)(hl:d.length=len)(af:len≤1000000)(ah:slot≤1000)(ht:c+16*slot+16≤n)(ha: ∀k∈d,k.at_+32≤n):
 Calls Tryz.prog 131 #[.pointer (some ⟨g,0,none⟩),.slice A len aa,.int .u64 (c:Int),.int .u64 (a:Int),.int .i64 (slot:Int)] w fun e w'=>e= .returned (.int .u64 (inSlot d slot:Nat))∧Own w' B (some ⟨z,0,none⟩) n cb (hung l d c a slot)∧Put8 z w w':=by
 have Z:=yH hs
 have X:=yH h3
 have HB:=yH hb
 have HK:=yH hk
 have HA:=yH ha
 have HL:=yH hl
 clear hs h3 hb hk ha hl
 go_enter Tryz.func131,Tryz.ntmps131
 go_wp2
 go_loopw [11,12,13] (fun x y i wr=> ∃k:Nat,k≤len∧i= .int .i64 (k:Int)∧x= .int .u64 (inSlot (d.take k) slot:Nat)∧y= .int .u64 (lastIn (d.take k) slot:Nat)∧wr=w) (fun _ _ i _=>len-(intOf i).toNat)
 case atStart=>exact⟨0,Nat.zero_le _,rfl,rfl,rfl,rfl⟩
 case round=>
  obtain⟨k,ai,rfl,rfl,rfl,rfl⟩:=hrel
  by_cases ac:k<len
  ·have L:k<d.length:=by rw[HL.out];exact ac
   obtain⟨b,rfl,aj,c0,c1,c2,c4⟩:=HK.out k L
   have HT:=yH (aDw d k L)
   have v:=yH (aHZ (d.take k) d[k] slot)
   have m:=yH (aCm (d.take k) d[k] slot)
   have ab:inSlot (d.take k) slot≤k:=Nat.le_trans (aCv _ _) (by simp;omega)
   clear c0 c4
   generalize d[k]=q at*
   obtain⟨qs,E⟩: ∃x,x=q.slot:=⟨_,rfl⟩
   obtain⟨I,f⟩: ∃x,x=inSlot (d.take k) slot:=⟨_,rfl⟩
   obtain⟨R,j⟩: ∃x,x=lastIn (d.take k) slot:=⟨_,rfl⟩
   rw[←E]at c2
   rw[←f]at v ab⊢
   rw[←j]at m⊢
   have D:=yH E
   clear E f j
   by_cases N:qs=slot
   ·have d1:((qs:Int)==(slot:Int))=true:=by simp[N]
    rw[if_pos (D.out▸N)]at v m
    clear N
    go_wp2
    go_roundw
    case rel=>exact⟨k+1,by omega,by go_num,by rw[HT.out,v.out];go_num,by rw[HT.out,m.out],trivial⟩
    case measure=>simp[intOf];omega
   ·have d1:((qs:Int)==(slot:Int))=false:=by simp;omega
    rw[if_neg (fun e=>N (D.out▸e))]at v m
    clear N
    go_wp2
    go_roundw
    case rel=>exact⟨k+1,by omega,by go_num,by rw[HT.out,v.out];rfl,by rw[HT.out,m.out],trivial⟩
    case measure=>simp[intOf];omega
  ·obtain rfl:k=len:=by omega
   rw[←HL.out,List.take_length]
   obtain⟨I,f⟩: ∃x,x=inSlot d slot:=⟨_,rfl⟩
   obtain⟨R,j⟩: ∃x,x=lastIn d slot:=⟨_,rfl⟩
   rw[←f,←j]
   have M:R+32≤n∨I=0:=by
    rcases Nat.eq_zero_or_pos I with h|h
    ·exact .inr h
    ·left
     obtain⟨q,ad,ae⟩:=aEK (l:=d) (slot:=slot) (by omega)
     rw[j,ae]
     exact HA.out q ad
   have C:I≤d.length:=by rw[f];exact aCv _ _
   rw[HL.out]at C
   have v:=yH f
   have m:=yH j
   clear f j
   by_cases V:I=0
   ·have HE:=yH (show hung l d c a slot=put8 (put8 l (c+16*slot) a) (c+16*slot+8) a by unfold hung;rw[←v.out,if_pos V])
    subst V
    clear M C
    go_wp2_with(first|(go_at_call 83;(with_reducible refine Calls.mono (aF2 g z cb n (c+16*slot) _ (by omega) J T l a B _ Z.out X.out HB.out o (by omega) Y) ?_);rintro e w1 ⟨rfl,r,u⟩;have F:=yH r;have t:=yH u;clear r u)|(go_at_call 83;(refine Calls.mono (aF2 g z cb n (c+16*slot+8) _ (by omega) J T _ a B _ (aCu Z.out t.out.kept o) X.out F.out o (by omega) Y) ?_);rintro e w2 ⟨rfl,p,s⟩;have G:=yH p;have H:=yH s;clear p s)|fail)
    go_ret
    exact⟨by rw[←v.out];rfl,by rw[HE.out];exact G.out,t.out.trans H.out⟩
   ·have d0:((I:Int)==0)=false:=by simp;omega
    have ag:R+32≤n:=by omega
    have HE:=yH (show hung l d c a slot=put8 (put8 l (R+24) a) (c+16*slot+8) a by unfold hung;rw[←v.out,if_neg V,←m.out])
    clear M V
    go_wp2_with(first|(go_at_call 83;(with_reducible refine Calls.mono (aF2 g z cb n (R+24) _ (by omega) J T l a B _ Z.out X.out HB.out o (by omega) Y) ?_);rintro e w1 ⟨rfl,r,u⟩;have F:=yH r;have t:=yH u;clear r u)|(go_at_call 83;(refine Calls.mono (aF2 g z cb n (c+16*slot+8) _ (by omega) J T _ a B _ (aCu Z.out t.out.kept o) X.out F.out o (by omega) Y) ?_);rintro e w2 ⟨rfl,p,s⟩;have G:=yH p;have H:=yH s;clear p s)|fail)
    go_ret
    exact⟨by rw[←v.out];rfl,by rw[HE.out];exact G.out,t.out.trans H.out⟩
end Me
namespace Fb
open Bytes8 Blk8
def Grew (w w':World):Prop:= ∃q os,w'=Sort.grow (w.drewN q) os
theorem Grew.refl (w:World):Grew w w:=⟨0,#[],by rw[Sort.grow_empty];rfl⟩
theorem Grew.alloc {w w':World}(h:Grew w w')(o:Obj):Grew w (w'.alloc o):=by
 obtain⟨q,a,rfl⟩:=h
 exact⟨q,a++ #[o],by rw[Sort.alloc_eq_grow,Sort.grow_grow]⟩
theorem Grew.drew {w w':World}(h:Grew w w'):Grew w w'.drew:=by
 obtain⟨q,a,rfl⟩:=h
 exact⟨q+1,a,rfl⟩
theorem Grew.drewN {w w':World}(h:Grew w w')(n:Nat):Grew w (w'.drewN n):=by
 obtain⟨q,a,rfl⟩:=h
 refine⟨q+n,a,?_⟩
 simp only[Sort.grow,World.drewN,Nat.add_assoc]
theorem Grew.trans {a b c:World}(h:Grew a b)(k:Grew b c):Grew a c:=by
 obtain⟨q,os,rfl⟩:=h
 obtain⟨e,d,rfl⟩:=k
 refine⟨q+e,os++d,?_⟩
 simp only[Sort.grow,World.drewN,Nat.add_assoc,Array.append_assoc]
theorem Grew.below {w w':World}(h:Grew w w'):Below w.heap.size w w':=by
 obtain⟨q,a,rfl⟩:=h
 refine⟨rfl,rfl,rfl,by simp[Sort.grow,World.drewN],fun k hk=>?_⟩
 exact Sort.heap_grow_old (w.drewN q) a hk
theorem Grew.boxed (w:World)(o:Obj):Grew w (w.alloc o):=(Grew.refl w).alloc o
end Fb
namespace Fc
open Bytes8 Blk8 Fa Fb
theorem aBL (l:List Int)(b:AllB l): ∃(cf:World→Nat) (mk:World→World),∀w,
 (convert 9 24 (.string (T l))).run Tryz.prog w= .ok (.slice (some ⟨w.heap.size,0,none⟩) l.length (cf w)) (mk w)∧(∀g,w.heap.size=g→Bytes (mk w) (some ⟨g,0,none⟩) l)∧Grew w (mk w):=by
 refine⟨fun w=>grownCap w (T l).size 0 5,fun w=>w.drew.alloc (.cells (bytesRow (T l) (grownCap w (T l).size 0 5)) 5 ((bytesRow (T l) (grownCap w (T l).size 0 5)).size,(bytesRow (T l) (grownCap w (T l).size 0 5)).size+1)),fun w=>⟨?_,?_,?_⟩⟩
 ·rw[run_bytes_of_string w 9 24 5 (T l) Tryz.underlying9 Tryz.underlying24 Tryz.underlying5,aA9]
 ·rintro g rfl
  refine⟨b,fun i hi=>⟨w.heap.size,0,rfl,by simp,?_⟩⟩
  rw[Nat.zero_add]
  show(w.drew.alloc (.cells _ _ _)).cell? ⟨w.drew.heap.size,i,none⟩=_
  rw[World.cell?_alloc_mark]
  have a:i<(T l).data.size:=by
   have:=aA9 l
   show i<(T l).size
   omega
  refine(bytesRow_at (T l) _ i a).trans ?_
  have d:(T l).data[i]=(T l).toList[i]'(by rw[ByteArray.toList_eq];simpa using a):=by simp only[ByteArray.toList_eq];rfl
  rw[d]
  simp only[aAz,List.getElem_map]
  have f:=b l[i] (List.getElem_mem hi)
  have c:l.getD i 0=l[i]:=by simp[List.getElem?_eq_getElem hi]
  rw[c]
  have e:(((l[i]).toNat.toUInt8.toNat:Nat):Int)=l[i]:=by simp;omega
  rw[e]
 ·exact((Grew.refl w).drew).alloc _
end Fc
end Go.Proofs.YtlelnfokffflnaaGreat
