/-
  Texts beneath.
-/
import Derived.Test.YteaikbodkgjkdaaGreatQl13
set_option linter.unusedVariables false
set_option linter.unusedSimpArgs false
set_option maxRecDepth 100000
set_option maxHeartbeats 8000000
open Go.ChangeShapes Go.WideShapes Go.ChangeAt Go.RowKit
namespace Go.Proofs.YteaikbodkgjkdaaGreat
namespace Yi
open Bytes8 Blk8 OwnE Dc Yc Yg Yj
def two (f g:Nat→Int)(k:Nat):List Value:=(prs f g k).map (Value.int .u64)
theorem aMC (f g:Nat→Int)(k:Nat):two f g (k+1)=two f g k++ [.int .u64 (f k),.int .u64 (g k)]:=by unfold two;rw[aB7];simp
theorem own_in2 {E:TypeId}{w:World}{base c k:Nat}{A:Option Addr}{f g:Nat→Int}(h:OwnE E 2 w base A k c (two f g k))(j:Wd f k)(n:Wd g k):In2 w A k f g:=fun i hi=>by
 have p:(two f g k).length=2*k:=by unfold two;rw[List.length_map,aFQ]
 obtain⟨l,m⟩:=aN2 f g k i hi
 obtain⟨b,rfl,_,a,o⟩:=h.cell (i:=i*2) (by omega)
 obtain⟨b2,d,_,_,e⟩:=h.cell (i:=i*2+1) (by omega)
 simp at d
 subst d
 refine⟨b,0,rfl,a,?_,?_,j i hi,n i hi⟩
 ·rw[Nat.zero_add,o];unfold two;rw[List.getElem?_map,l];rfl
 ·rw[Nat.zero_add,e];unfold two;rw[List.getElem?_map,m];rfl
end Yi
namespace Yz
open OwnE
theorem OwnE.farE {E:TypeId}{size:Nat}{w:World}{base:Nat}{A:Option Addr}{n c:Nat}{xs:List Value}(h:OwnE E size w base A n c xs){a:Addr}(b:a.block<base)(u:Value):OwnE E size (w.setCell a u) base A n c xs:=
 ⟨by simpa using h.1,ownsRow_setCell_below h.2 b u⟩
theorem wpList_build_as {P:Program}{c:Array Oper}{rest:List Oper}{o:Oper}{a:Act}{w:World}{Q:Exit→Act→World→Prop}(f:o.guard=none)(t:TypeId)(b:Array (Nat×Operand))(e:o.op= .build t b)(cells:Array Value)
 (d:P.built t (b.map fun(i,x)=>(i,a.eval x)).toList=some cells)(h:wpList P c Q rest (a.put o.dst (.agg cells)) w):wpList P c Q (o::rest) a w:=
 wpList_build f t b e (by rw[d];rfl) (by rw[d];exact h)
end Yz
namespace Yl
open Bytes8 OwnE Ob Oc Od Oi Kf Yp
theorem ru_z (A:Option Addr)(l:List Int)(n a i:Nat)(z:Int)(w:World)(c:Bytes w A l)(d:l.length=n)(f:n≤1000000)(b:i+8≤n)(g:z=(i:Int)):
 Calls Tryz.prog 159 #[.slice A n a,.int .u64 z] w fun e w'=>e= .returned (.int .u64 (u8 l i))∧w=w':=by
 subst g;exact aIJ A l n a i w c d f b
def rcode (l:List Int)(a:Nat)(k:Int):Int:=if code l a≠0 then code l a else if kindL l a≠k then 4 else 0
theorem aKe (l:List Int)(a:Nat)(k:Int)(e d:Nat):ecode l a k e d=if rcode l a k≠0 then rcode l a k else if(bodyL l a).length<e+d∨(bodyL l a).length%d≠0 then 5 else 0:=by
 unfold ecode rcode
 by_cases b:code l a≠0
 ·rw[if_pos b,if_pos b,if_pos b]
 ·rw[if_neg b,if_neg b]
  by_cases c:kindL l a≠k
  ·rw[if_pos c,if_pos c,if_pos (by decide)]
  ·rw[if_neg c,if_neg c];rfl
def Rbodied (l:List Int)(a:Nat)(k:Int)(w:World)(e:Ending)(w':World):Prop:=
 ∃B m cb,e= .returned (.tuple #[.slice B m cb,.int .i64 (rcode l a k)])∧Below w.heap.size w w'∧(rcode l a k=0→Bytes w' B (bodyL l a)∧(bodyL l a).length=m∧m≤1000000)
theorem aKf (A:Option Addr)(l:List Int)(n b a:Nat)(k:Int)(w:World)(g:Bytes w A l)(o:l.length=n)(i:n≤1000000)(q:n≤b)(c:b≤maxLen)(j:a≤18446744073709551615):
 Calls Tryz.prog 160 #[.slice A n b,.int .u64 (a:Int),.int .i64 k] w (Rbodied l a k w):=by
 refine(aGX A l n b a k w g o i q c j).mono fun e w' ⟨B,m,cb,h1,h2,h3⟩=>⟨B,m,cb,h1,h2,fun h=>?_⟩
 unfold rcode at h
 by_cases d:code l a=0
 ·rw[if_neg (by omega)]at h
  by_cases f:kindL l a=k
  ·obtain⟨p,r,_,_,s,_⟩:=h3 d f
   exact⟨p,r,s⟩
  ·rw[if_pos f]at h;omega
 ·rw[if_pos d]at h;exact absurd h d
theorem OwnE.farE {E:TypeId}{size:Nat}{w:World}{base:Nat}{A:Option Addr}{n c:Nat}{xs:List Value}(h:OwnE E size w base A n c xs){a:Addr}(b:a.block<base)(u:Value):OwnE E size (w.setCell a u) base A n c xs:=
 ⟨by simpa using h.1,ownsRow_setCell_below h.2 b u⟩
end Yl
namespace Ym
open Bytes8 Blk8 Own8 OwnE Dc Ob Od Rows2 Kf Yc Yp Yd Ye Yg Yh Yj Yl
theorem aBC:Elt 59 91 1 8 (.int .u64 0):=⟨Tryz.underlying91,by kernel_rfl,rfl,by decide⟩
theorem aA3:(Tryz.prog.info? 183).map (·.size)=some 2:=by kernel_rfl
def wds (f:Nat→Int)(k:Nat):List Value:=(ints f k).map (Value.int .u64)
theorem aMD (f:Nat→Int)(k:Nat):wds f (k+1)=wds f k++ [.int .u64 (f k)]:=by unfold wds;rw[ints_succ];simp
theorem aME {E:TypeId}{w:World}{base c k:Nat}{A:Option Addr}{f:Nat→Int}(h:OwnE E 1 w base A k c (wds f k))(d:Wd f k):InInts .u64 w A k f:=fun i hi=>by
 have g:(wds f k).length=k:=by unfold wds;rw[List.length_map,ints_len]
 obtain⟨b,rfl,_,a,e⟩:=h.cell (i:=i) (by omega)
 refine⟨b,0,rfl,a,?_,?_⟩
 ·rw[Nat.zero_add,e];unfold wds ints;simp[hi]
 ·have:=d i hi
  simp[Lit.wf,IntKind.min,IntKind.max,IntKind.signed,IntKind.bits]
  omega
theorem aFZ (A:Option Addr)(l:List Int)(n F a:Nat)(w:World)(C:Bytes w A l)(hL:l.length=n)(hn:n≤1000000)(hc:n≤F)(af:F≤maxLen)(ha:a≤18446744073709551615):
 Calls Tryz.prog 128 #[.slice A n F,.int .u64 (a:Int)] w (ArrTold2 l a w):=by
 have b0:=yH ((yB w.heap.size w).alloc (yR _) (arrC 183 0 none 0 0))
 have R0:=yH (show Blk (w.alloc (arrC 183 0 none 0 0)) w.heap.size (aL 0 none 0 0) 183 from Blk.new w _ _)
 have D:=yH (aKf A l n F a 6 (w.alloc (arrC 183 0 none 0 0)) (C.below b0.out (yR _)) hL hn hc af ha)
 unfold Rbodied at D
 have am:=yH (aDJ (a:=a) C.1)
 have E:ecode l a 6 8 8≠0→arX l a=0∧arM l a=0:=fun h=>⟨if_neg h,if_neg h⟩
 have r:ecode l a 6 8 8=0→arX l a=u8 (bodyL l a) 0∧arM l a=arN (bodyL l a):=fun h=>⟨if_pos h,if_pos h⟩
 have L:=aKe l a 6 8 8
 by_cases N:rcode l a 6≠0
 ·rw[if_pos N]at L
  have f:=yH L
  have y:=yH (E (by rw[L];exact N))
  clear E r C hL L
  generalize rcode l a 6=al at*
  go_enter Tryz.func128,Tryz.ntmps128
  go_wp2_with(first
   |(go_at_call 160;(with_reducible refine D.out.mono ?_);rintro e w2 ⟨B,m,cb,rfl,c,_⟩;have j:=yH (R0.out.below c R0.out.lt);have g:=yH (b0.out.trans (c.mono b0.out.size));clear c)
   |(refine wpList_store_row rfl 183 (.tmp 4) (.tmp 18) rfl w.heap.size _ rfl rfl 183 _ j.out aA3 rfl (by simp[Value.oneCell']) ?_))
  refine bodyPost_ret (v:= .tuple #[arrV 0 none 0 0,.int .i64 al]) (by exact aAr Tryz.results128 _ _ w.heap.size 183 _ (0,0) _ _ rfl rfl (Blk.setRow j.out (aL 0 none 0 0)) Tryz.underlying183 rfl aA3) rfl ?_
  unfold ArrTold2
  rw[y.out.1,y.out.2,f.out]
  exact⟨none,0,rfl,aAi g.out (yR _) _,fun i hi=>absurd hi (by omega),fun b off e=>by cases e⟩
 have h0:rcode l a 6=0:=by omega
 rw[if_neg N]at L
 rw[h0]at D
 have V:=yH fun(i:Nat) (z:Int) (B:Option Addr) (m cb:Nat) (W:World) (hB:Bytes W B (bodyL l a)) (hm:(bodyL l a).length=m) (hm2:m≤1000000) (hz:z=(i:Int)) (hi:i+8≤m)=>ru_z B (bodyL l a) m cb i z W hB hm hm2 hi hz
 have ad:=yH L
 have aq:=yH E
 have aw:=yH r
 have ak:=yH (show arN (bodyL l a)=((bodyL l a).length-8)/8 from rfl)
 clear E r C hL N h0 L
 generalize G:bodyL l a=d at*
 have ap:=yH G
 clear G
 go_enter Tryz.func128,Tryz.ntmps128
 go_upto_region 4 with(go_at_call 160;(with_reducible refine D.out.mono ?_);rintro e w2 ⟨B,m,cb,rfl,c,Z⟩)
 obtain⟨d1,d2,d5⟩:=Z (by first|rfl|trivial)
 have j:=yH (R0.out.below c R0.out.lt)
 have g:=yH (b0.out.trans (c.mono b0.out.size))
 have D1:=yH d1
 have M:=yH d2
 clear d1 d2 c Z
 have I:=M.out
 by_cases q:m<16∨m%8≠0
 ·have f:=yH (ad.out.trans (if_pos (by rw[M.out];omega)))
  have y:=yH (aq.out (by rw[f.out];decide))
  by_cases az:m<16
  ·have e1:(m:Int)<16:=by omega
   clear I q
   go_wp2_with(refine wpList_store_row rfl 183 (.tmp 4) (.tmp 29) rfl w.heap.size _ rfl rfl 183 _ j.out aA3 rfl (by simp[Value.oneCell']) ?_)
   refine bodyPost_ret (v:= .tuple #[arrV 0 none 0 0,.int .i64 5]) (by exact aAr Tryz.results128 _ _ w.heap.size 183 _ (0,0) _ _ rfl rfl (Blk.setRow j.out (aL 0 none 0 0)) Tryz.underlying183 rfl aA3) rfl ?_
   unfold ArrTold2
   rw[y.out.1,y.out.2,f.out]
   exact⟨none,0,rfl,aAi g.out (yR _) _,fun i hi=>absurd hi (by omega),fun b off e=>by cases e⟩
  ·have e1: ¬(m:Int)<16:=by omega
   obtain⟨R,hR⟩: ∃R:Int,R=((m%8:Nat):Int):=⟨_,rfl⟩
   have e2:(m:Int).tmod 8=R:=by rw[Int.tmod_eq_emod_of_nonneg (by omega),hR];omega
   have ae:(m:Int)%8=R:=by rw[hR];omega
   have e3:(R==0)=false:=by simp;omega
   have e4:(R !=0)=true:=by simp;omega
   have e5: ¬R=0:=by omega
   clear I q hR
   go_wp2_with(refine wpList_store_row rfl 183 (.tmp 4) (.tmp 29) rfl w.heap.size _ rfl rfl 183 _ j.out aA3 rfl (by simp[Value.oneCell']) ?_)
   refine bodyPost_ret (v:= .tuple #[arrV 0 none 0 0,.int .i64 5]) (by exact aAr Tryz.results128 _ _ w.heap.size 183 _ (0,0) _ _ rfl rfl (Blk.setRow j.out (aL 0 none 0 0)) Tryz.underlying183 rfl aA3) rfl ?_
   unfold ArrTold2
   rw[y.out.1,y.out.2,f.out]
   exact⟨none,0,rfl,aAi g.out (yR _) _,fun i hi=>absurd hi (by omega),fun b off e=>by cases e⟩
 ·have f:=yH (ad.out.trans (if_neg (by rw[M.out];omega)))
  have y:=yH (aw.out f.out)
  obtain⟨t,ht⟩: ∃t,m=8+8*t:=⟨(m-8)/8,by omega⟩
  subst ht
  have X:arN d=t:=by rw[ak.out,M.out];omega
  have av:=yH X
  have e1: ¬((8+8*t:Nat):Int)<16:=by omega
  have e2:((8+8*t:Nat):Int).tmod 8=0:=by rw[Int.tmod_eq_emod_of_nonneg (by omega)];omega
  have ae:((8+8*t:Nat):Int)%8=0:=by omega
  have X0:=yH (Blk.new w2 (aL (u8 d 0) none 0 0) 183)
  have BX:=yH ((yB w2.heap.size w2).alloc (yR _) (.cells (aL (u8 d 0) none 0 0).toArray 183))
  clear I q X
  go_wp2_with(go_at_call 159;(with_reducible refine(V.out 0 0 _ _ _ _ D1.out M.out (by omega) rfl (by omega)).mono ?_);rintro e w' ⟨rfl,rfl⟩)
  go_loopw [9] (fun i wr=> ∃(k:Nat) (s:Option Addr) (x:Nat),k≤t∧i= .int .i64 ((8+8*k:Nat):Int)∧Hid (Blk wr w2.heap.size (aL (u8 d 0) s k x) 183)∧Hid (OwnE 59 1 wr (w2.heap.size+1) s k x (wds (arF d) k))∧Hid (Below w2.heap.size w2 wr)) (fun i _=>8+8*t-(intOf i).toNat)
  case atStart=>exact⟨0,none,0,Nat.zero_le _,rfl,X0,OwnE.nil _ _ (by simp),BX⟩
  case round=>
   obtain⟨k,s,x,hk,rfl,Y,ho,C⟩:=hrel
   have e0:=Y.out.cell (i:=0) rfl
   have ab:=Y.out.cell (i:=1) rfl
   by_cases hlt:k<t
   ·have Dr:=yH (D1.out.below C.out (yR _)).drew
    have ah:=yH (aMD (arF d) k)
    have an:=yH (show arF d k=u8 d (8+8*k)from rfl)
    have ao:=yH (show Blk (wr.alloc (.cells #[.int .u64 (u8 d (8+8*k))] 59)).drew wr.heap.size [.int .u64 (u8 d (8+8*k))] 59 from Blk.new wr _ _)
    have ag:=Y.out.lt
    have Na:=yH ((yB wr.heap.size wr).alloc (yR _) (.cells #[.int .u64 (u8 d (8+8*k))] 59)).drew
    have u1:wr.drew.cell? ⟨w2.heap.size,1,none⟩=some (.slice s k x):=ab
    have v1:=(Na.out.cell (p:=⟨w2.heap.size,1,none⟩) ag).trans ab
    have ax:((8+8*k:Nat):Int)<((8+8*t:Nat):Int):=by omega
    have ay:IntKind.u64.wrap (8+8*(k:Int))=8+8*(k:Int):=by rw[IntKind.wrap_u64];omega
    go_wp2_with fail
    go_region_law (first
     |(refine aBT aBC (o:=⟨some 46,_,_,_,_,_⟩) rfl (.tmp 40) (.tmp 45) rfl (w2.heap.size+1) s k x _ rfl ((ho.out.alloc (.cells #[.int .u64 (u8 d (8+8*k))] 59)).drew) ⟨wr.heap.size,0,none⟩ 1 1 [.int .u64 (u8 d (8+8*k))] rfl rfl (Blk.news ao.out) (by intro u hu;simp at hu;subst hu;rfl) (by omega) (by omega) ?_;intro A2 c2 w4 J ac;rw[←an.out,←ah.out]at J;have au:=yH J;have aa:=((yB wr.heap.size wr).alloc (yR _) (.cells #[.int .u64 (u8 d (8+8*k))] 59)).drew;have H:=Below.trans (aa.mono (by omega:w2.heap.size+1≤wr.heap.size)) ac;have ai:=yH (C.out.trans (H.mono (Nat.le_succ _)));have E4:=yH (Y.out.below H (Nat.lt_succ_self _));have x1:=E4.out.cell (i:=1) rfl;have y1:=E4.out.frozen 1;clear J ac aa H)
     |(go_simp;go_at_call 159;(with_reducible refine(V.out (8+8*k) _ _ _ _ _ Dr.out M.out (by omega) (by omega) (by omega)).mono ?_);rintro e w' ⟨rfl,rfl⟩))
    all_goals
     go_wp2
     go_roundw
     case rel=>exact⟨k+1,A2,c2,by omega,by go_num,yH (E4.out.set_ 1 _),yH (OwnE.farE au.out (by simp) _),yH (ai.out.setCell (yR _) _)⟩
     case measure=>simp[intOf];omega
   ·obtain rfl:k=t:=by omega
    have HI:=yH (aME ho.out (fun i _=>aCE am.out _))
    have R3:=yH (j.out.below C.out j.out.lt)
    have W3:=yH (g.out.trans (C.out.mono g.out.size))
    have aj:=yH (fun b off (e:s=some ⟨b,off,none⟩)=>show b≠w.heap.size by
     have N:=Dc.OwnE.ltB ho.out b (by rw[e];rfl)
     have h2:=j.out.lt
     omega)
    have ar:=yH (fun b off (e:s=some ⟨b,off,none⟩)=>show w.heap.size≤b by
     have N:=Dc.OwnE.ltB ho.out b (by rw[e];rfl)
     have h2:=j.out.lt
     omega)
    go_wp2_with(first
     |(refine wpList_load_row rfl 183 (.tmp 8) rfl w2.heap.size rfl 183 (aL (u8 d 0) s k x).toArray (0,0) _ Y.out Tryz.underlying183 rfl aA3 ?_)
     |(refine wpList_store_row rfl 183 (.tmp 4) (.tmp 48) rfl w.heap.size (aL (u8 d 0) s k x).toArray rfl rfl 183 _ R3.out aA3 rfl (by simp[Value.oneCell']) ?_))
    refine bodyPost_ret (v:= .tuple #[arrV (u8 d 0) s k x,.int .i64 0]) (by exact aAr Tryz.results128 _ _ w.heap.size 183 _ (0,0) _ _ rfl rfl (Blk.setRow R3.out (aL (u8 d 0) s k x)) Tryz.underlying183 rfl aA3) rfl ?_
    unfold ArrTold2
    rw[f.out,y.out.1,y.out.2,av.out,ap.out]
    exact⟨_,x,rfl,aAi W3.out (yR _) _,InInts.setRow HI.out (fun b off e=>aj.out b off e) _,ar.out⟩
end Ym
namespace Yn
open Bytes8 Blk8 Own8 OwnE Dc Ob Rows2 Kf Yc Yp Yd Ye Yg Yh Yi Yl
theorem aAD:(Tryz.prog.info? 150).map (·.size)=some 21:=by kernel_rfl
theorem aMF:Elt 145 138 2 16 (.agg #[.int .u64 0,.int .u64 0]):=⟨Tryz.underlying138,by kernel_rfl,rfl,by decide⟩
theorem wpList_build_as {P:Program}{c:Array Oper}{rest:List Oper}{o:Oper}{a:Act}{w:World}{Q:Exit→Act→World→Prop}(f:o.guard=none)(t:TypeId)(b:Array (Nat×Operand))(e:o.op= .build t b)(cells:Array Value)
 (d:P.built t (b.map fun(i,x)=>(i,a.eval x)).toList=some cells)(h:wpList P c Q rest (a.put o.dst (.agg cells)) w):wpList P c Q (o::rest) a w:=
 wpList_build f t b e (by rw[d];rfl) (by rw[d];exact h)
def Kp (bd:List Int)(j:Nat)(i:Nat):Int:=if i<j then itK bd i else 0
theorem aPG (a:List Int)(j:Nat)(b:j<16)(s r m x:Int)(A:Option Addr)(n c:Nat):(entL s r m (Kp a j) x A n c).set (3+j) (.int .u8 (itK a j))=entL s r m (Kp a (j+1)) x A n c:=by
 rcases j with _|_|_|_|_|_|_|_|_|_|_|_|_|_|_|_|j
 all_goals first|rfl|omega
theorem aPH (a:List Int)(s r m x:Int)(A:Option Addr)(n c:Nat):entL s r m (Kp a 16) x A n c=entL s r m (itK a) x A n c:=rfl
theorem ent_cell {w:World}{g:Nat}{T:TypeId}{s r m x:Int}{K:Nat→Int}{A:Option Addr}{n c:Nat}(h:Blk w g (entL s r m K x A n c) T)(j:Nat)(b:j<16): ∃u,w.cell? ⟨g,3+j,none⟩=some u:=by
 have a:(entL s r m K x A n c).length=21:=rfl
 exact⟨(entL s r m K x A n c)[3+j],h.cell (yG (by omega))⟩
theorem aF0 (A:Option Addr)(l:List Int)(n Z a:Nat)(w:World)(M:Bytes w A l)(hL:l.length=n)(hn:n≤1000000)(hc:n≤Z)(aS:Z≤maxLen)(ha:a≤18446744073709551615):
 Calls Tryz.prog 190 #[.slice A n Z,.int .u64 (a:Int)] w (EntTold2 l a w):=by
 have b0:=yH ((yB w.heap.size w).alloc (yR _) (zC 150))
 have R0:=yH (show Blk (w.alloc (zC 150)) w.heap.size zL 150 from Blk.new w zL _)
 have V:=yH (aKf A l n Z a 3 (w.alloc (zC 150)) (M.below b0.out (yR _)) hL hn hc aS ha)
 unfold Rbodied at V
 have X:=yH (aDJ (a:=a) M.1)
 have x:entC0 l a=if ecode l a 3 48 16≠0 then ecode l a 3 48 16 else if u8 (bodyL l a) 0=0 then 13 else if risB (itA (bodyL l a)) (itN (bodyL l a))then 0 else 11:=rfl
 have hr:=aKe l a 3 48 16
 have Y:=yH (aHd (l:=l) (a:=a))
 by_cases h1:rcode l a 3≠0
 ·rw[if_pos h1]at hr
  rw[hr,if_pos h1]at x
  have f:=yH x
  have d:=yH (Y.out (by rw[x];exact h1))
  clear x M hL hr
  generalize rcode l a 3=aG at*
  go_enter Tryz.func190,Tryz.ntmps190
  go_wp2_with(first
   |(go_at_call 160;(with_reducible refine V.out.mono ?_);rintro e w2 ⟨B,m,cb,rfl,k,_⟩;have D:=yH (R0.out.below k R0.out.lt);have r:=yH (b0.out.trans (k.mono b0.out.size));clear k)
   |(refine wpList_store_row rfl 150 (.tmp 4) (.tmp 20) rfl w.heap.size _ rfl rfl 150 _ D.out aAD rfl aCt ?_))
  refine bodyPost_ret (v:= .tuple #[entV 0 0 0 (fun _=>0) 0 none 0 0,.int .i64 aG]) (by exact aAr Tryz.results190 _ _ w.heap.size 150 _ (0,0) _ _ rfl rfl (Blk.setRow D.out zL) Tryz.underlying150 rfl aAD) rfl ?_
  unfold EntTold2
  rw[d.out.1,d.out.1,d.out.1,d.out.1,d.out.2.1,d.out.2.2,f.out]
  exact⟨none,0,rfl,aAi r.out (yR _) _,aBh _ _ _ _,fun b g e=>by cases e⟩
 have h0:rcode l a 3=0:=by omega
 rw[if_neg h1]at hr
 rw[h0]at V
 have au:entC0 l a=0→eNum l a 0=u8 (bodyL l a) 0∧eNum l a 8=u8 (bodyL l a) 8∧eNum l a 16=u8 (bodyL l a) 16∧eNum l a 40=u8 (bodyL l a) 40∧eK l a=itK (bodyL l a)∧eN l a=itN (bodyL l a):=fun h=>by
  obtain⟨t1,t2,t3⟩:=aFe h
  exact⟨t1 0,t1 8,t1 16,t1 40,t2,t3⟩
 have aP:=yH au
 have s:=yH fun(i:Nat) (z:Int) (B:Option Addr) (m cb:Nat) (W:World) (hB:Bytes W B (bodyL l a)) (hm:(bodyL l a).length=m) (hm2:m≤1000000) (hz:z=(i:Int)) (hi:i+8≤m)=>ru_z B (bodyL l a) m cb i z W hB hm hm2 hi hz
 have ap:=yH x
 have ar:=yH hr
 have aF:=yH (show itN (bodyL l a)=((bodyL l a).length-48)/16 from rfl)
 clear x M hL h1 h0 hr au
 generalize aa:bodyL l a=c at*
 have aK:=yH aa
 clear aa
 go_enter Tryz.func190,Tryz.ntmps190
 go_upto_region 4 with(go_at_call 160;(with_reducible refine V.out.mono ?_);rintro e w2 ⟨B,m,cb,rfl,k,aj⟩)
 obtain⟨d1,d2,d5⟩:=aj (by first|rfl|trivial)
 have D:=yH (R0.out.below k R0.out.lt)
 have r:=yH (b0.out.trans (k.mono b0.out.size))
 have D1:=yH d1
 have y:=yH d2
 clear d1 d2 k aj
 have ac:=y.out
 by_cases I:m<64∨m%16≠0
 ·have ax:=ar.out.trans (if_pos (by rw[y.out];omega))
  have f:=yH (show entC0 l a=5 by rw[ap.out,ax];rfl)
  have d:=yH (Y.out (by rw[f.out];decide))
  clear ax
  by_cases bf:m<64
  ·have e1:(m:Int)<64:=by omega
   clear ac I
   go_wp2_with(refine wpList_store_row rfl 150 (.tmp 4) (.tmp 31) rfl w.heap.size _ rfl rfl 150 _ D.out aAD rfl aCt ?_)
   refine bodyPost_ret (v:= .tuple #[entV 0 0 0 (fun _=>0) 0 none 0 0,.int .i64 5]) (by exact aAr Tryz.results190 _ _ w.heap.size 150 _ (0,0) _ _ rfl rfl (Blk.setRow D.out zL) Tryz.underlying150 rfl aAD) rfl ?_
   unfold EntTold2
   rw[d.out.1,d.out.1,d.out.1,d.out.1,d.out.2.1,d.out.2.2,f.out]
   exact⟨none,0,rfl,aAi r.out (yR _) _,aBh _ _ _ _,fun b g e=>by cases e⟩
  ·have e1: ¬(m:Int)<64:=by omega
   obtain⟨R,hR⟩: ∃R:Int,R=((m%16:Nat):Int):=⟨_,rfl⟩
   have e2:(m:Int).tmod 16=R:=by rw[Int.tmod_eq_emod_of_nonneg (by omega),hR];omega
   have aB:(m:Int)%16=R:=by rw[hR];omega
   have e3:(R==0)=false:=by simp;omega
   have e4:(R !=0)=true:=by simp;omega
   have e5: ¬R=0:=by omega
   clear ac I hR
   go_wp2_with(refine wpList_store_row rfl 150 (.tmp 4) (.tmp 31) rfl w.heap.size _ rfl rfl 150 _ D.out aAD rfl aCt ?_)
   refine bodyPost_ret (v:= .tuple #[entV 0 0 0 (fun _=>0) 0 none 0 0,.int .i64 5]) (by exact aAr Tryz.results190 _ _ w.heap.size 150 _ (0,0) _ _ rfl rfl (Blk.setRow D.out zL) Tryz.underlying150 rfl aAD) rfl ?_
   unfold EntTold2
   rw[d.out.1,d.out.1,d.out.1,d.out.1,d.out.2.1,d.out.2.2,f.out]
   exact⟨none,0,rfl,aAi r.out (yR _) _,aBh _ _ _ _,fun b g e=>by cases e⟩
 have ag:=ar.out.trans (if_neg (by rw[y.out];omega))
 have G:=ap.out
 rw[ag,if_neg (by decide)]at G
 have aq:=yH G
 obtain⟨t,ht⟩: ∃t,m=48+16*t:=⟨(m-48)/16,by omega⟩
 subst ht
 have ah:itN c=t:=by rw[aF.out,y.out];omega
 have aA:=yH ah
 have a7:1≤t:=by omega
 have e1: ¬((48+16*t:Nat):Int)<64:=by omega
 have e2:((48+16*t:Nat):Int).tmod 16=0:=by rw[Int.tmod_eq_emod_of_nonneg (by omega)];omega
 have aB:((48+16*t:Nat):Int)%16=0:=by omega
 have J:=yH D.out.lt
 clear ac I ah ag G
 go_upto_region 7 with(first
  |(go_at_call 159;(first|(with_reducible refine(s.out 0 0 _ _ _ _ D1.out y.out (by omega) rfl (by omega)).mono ?_)|(with_reducible refine(s.out 8 8 _ _ _ _ D1.out y.out (by omega) rfl (by omega)).mono ?_)|(with_reducible refine(s.out 16 16 _ _ _ _ D1.out y.out (by omega) rfl (by omega)).mono ?_)|(with_reducible refine(s.out 40 40 _ _ _ _ D1.out y.out (by omega) rfl (by omega)).mono ?_));rintro e w' ⟨rfl,rfl⟩)
  |(refine wpList_build_as rfl 150 _ rfl #[.int .u64 (u8 c 0),.int .u64 (u8 c 8),.int .u64 (u8 c 16),.int .u8 0,.int .u8 0,.int .u8 0,.int .u8 0,.int .u8 0,.int .u8 0,.int .u8 0,.int .u8 0,.int .u8 0,.int .u8 0,.int .u8 0,.int .u8 0,.int .u8 0,.int .u8 0,.int .u8 0,.int .u8 0,.int .u64 (u8 c 40),.slice none 0 0] (by kernel_rfl) ?_)
  |(refine wpList_store_row rfl 150 (.tmp 8) (.tmp 40) rfl w2.heap.size #[.int .u64 (u8 c 0),.int .u64 (u8 c 8),.int .u64 (u8 c 16),.int .u8 0,.int .u8 0,.int .u8 0,.int .u8 0,.int .u8 0,.int .u8 0,.int .u8 0,.int .u8 0,.int .u8 0,.int .u8 0,.int .u8 0,.int .u8 0,.int .u8 0,.int .u8 0,.int .u8 0,.int .u8 0,.int .u64 (u8 c 40),.slice none 0 0] rfl rfl 150 zL.toArray (Blk.new w2 zL 150) aAD rfl (by simp[Value.oneCell']) ?_))
 have X0:=yH (show Blk ((w2.alloc (zC 150)).setRow w2.heap.size #[.int .u64 (u8 c 0),.int .u64 (u8 c 8),.int .u64 (u8 c 16),.int .u8 0,.int .u8 0,.int .u8 0,.int .u8 0,.int .u8 0,.int .u8 0,.int .u8 0,.int .u8 0,.int .u8 0,.int .u8 0,.int .u8 0,.int .u8 0,.int .u8 0,.int .u8 0,.int .u8 0,.int .u8 0,.int .u64 (u8 c 40),.slice none 0 0]) w2.heap.size (entL (u8 c 0) (u8 c 8) (u8 c 16) (Kp c 0) (u8 c 40) none 0 0) 150 from Blk.setRow (show Blk (w2.alloc (zC 150)) w2.heap.size zL 150 from Blk.new w2 zL _) (entL (u8 c 0) (u8 c 8) (u8 c 16) (fun _=>0) (u8 c 40) none 0 0))
 have BX:=yH (show Below w2.heap.size w2 ((w2.alloc (zC 150)).setRow w2.heap.size #[.int .u64 (u8 c 0),.int .u64 (u8 c 8),.int .u64 (u8 c 16),.int .u8 0,.int .u8 0,.int .u8 0,.int .u8 0,.int .u8 0,.int .u8 0,.int .u8 0,.int .u8 0,.int .u8 0,.int .u8 0,.int .u8 0,.int .u8 0,.int .u8 0,.int .u8 0,.int .u8 0,.int .u8 0,.int .u64 (u8 c 40),.slice none 0 0])from aAi ((yB w2.heap.size w2).alloc (yR _) _) (yR _) _)
 generalize (w2.alloc (zC 150)).setRow w2.heap.size #[.int .u64 (u8 c 0),.int .u64 (u8 c 8),.int .u64 (u8 c 16),.int .u8 0,.int .u8 0,.int .u8 0,.int .u8 0,.int .u8 0,.int .u8 0,.int .u8 0,.int .u8 0,.int .u8 0,.int .u8 0,.int .u8 0,.int .u8 0,.int .u8 0,.int .u8 0,.int .u8 0,.int .u8 0,.int .u64 (u8 c 40),.slice none 0 0]=w3 at*
 have RX:=yH (D.out.below BX.out J.out)
 have WX:=yH (r.out.trans (BX.out.mono r.out.size))
 have x0:=X0.out.cell (i:=0) rfl
 obtain⟨s0,al⟩: ∃s0,s0=u8 c 0:=⟨_,rfl⟩
 by_cases hz:u8 c 0=0
 ·have f:=yH (aq.out.trans (if_pos hz))
  have d:=yH (Y.out (by rw[f.out];decide))
  rw[hz]at x0
  clear al
  go_wp2_with(refine wpList_store_row rfl 150 (.tmp 4) (.tmp 44) rfl w.heap.size _ rfl rfl 150 _ RX.out aAD rfl aCt ?_)
  refine bodyPost_ret (v:= .tuple #[entV 0 0 0 (fun _=>0) 0 none 0 0,.int .i64 13]) (by exact aAr Tryz.results190 _ _ w.heap.size 150 _ (0,0) _ _ rfl rfl (Blk.setRow RX.out zL) Tryz.underlying150 rfl aAD) rfl ?_
  unfold EntTold2
  rw[d.out.1,d.out.1,d.out.1,d.out.1,d.out.2.1,d.out.2.2,f.out]
  exact⟨none,0,rfl,aAi WX.out (yR _) _,aBh _ _ _ _,fun b g e=>by cases e⟩
 have E:=aq.out.trans (if_neg hz)
 rw[aA.out]at E
 have ao:=yH E
 have a6:(u8 c 0==0)=false:=by simpa using hz
 obtain⟨b,g,rfl,aQ,F⟩:=D1.out.spot (by rw[y.out];omega)
 have aY:=yH F
 clear E F al
 go_wp2_with fail
 go_loopw [9] (fun i wr=> ∃j:Nat,j≤16∧i= .int .i64 (j:Int)∧Hid (Blk wr w2.heap.size (entL (u8 c 0) (u8 c 8) (u8 c 16) (Kp c j) (u8 c 40) none 0 0) 150)∧Hid (Below w2.heap.size w2 wr)) (fun i _=>16-(intOf i).toNat)
 case atStart=>exact⟨0,by omega,rfl,X0,BX⟩
 case round=>
  obtain⟨j,hj,rfl,hx,N⟩:=hrel
  by_cases hlt:j<16
  ·have aX:=(N.out.cell (p:=⟨b,g+(24+j),none⟩) aQ).trans (aY.out (24+j) (by rw[y.out];omega))
   obtain⟨u,hu⟩:=ent_cell hx.out j hlt
   have a4:=hx.out.frozen (3+j)
   have am:c.getD (24+j) 0=itK c j:=(if_pos hlt).symm
   rw[am]at aX
   have aZ:=yH (show Blk (wr.setCell ⟨w2.heap.size,3+j,none⟩ (.int .u8 (itK c j))) w2.heap.size (entL (u8 c 0) (u8 c 8) (u8 c 16) (Kp c (j+1)) (u8 c 40) none 0 0) 150 from aPG c j hlt (u8 c 0) (u8 c 8) (u8 c 16) (u8 c 40) none 0 0▸hx.out.set_ (3+j) (.int .u8 (itK c j)))
   have a2:(0:Int)≤(j:Int):=by omega
   have H:(j:Int)<16:=by omega
   generalize itK c j=kv at*
   clear am
   go_wp2
   go_roundw
   case rel=>exact⟨j+1,by omega,by go_num,aZ,yH (N.out.setCell (yR _) _)⟩
   case measure=>simp[intOf];omega
  ·have H:j=16:=by omega
   have bh: ¬(j:Int)<16:=by omega
   have ab:=hx.out
   rw[H,aPH]at ab
   clear H
   have aw:=yH ab
   have aJ:=yH N.out
   clear hx ab N X0 BX RX WX x0
   rename World=>wA
   go_wp2_with fail
   go_loopw [10] (fun i wr=> ∃(q:Nat) (C:Option Addr) (L:Nat),q≤t∧i= .int .i64 ((48+16*q:Nat):Int)∧Hid (Blk wr w2.heap.size (entL (u8 c 0) (u8 c 8) (u8 c 16) (itK c) (u8 c 40) C q L) 150)∧Hid (OwnE 145 2 wr (w2.heap.size+1) C q L (two (itA c) (itH c) q))∧Hid (risB (itA c) q=true)∧Hid (Below w2.heap.size w2 wr)) (fun i _=>48+16*t-(intOf i).toNat)
   case atStart=>exact⟨0,none,0,Nat.zero_le _,rfl,aw,OwnE.nil _ _ (Nat.succ_le_of_lt aw.out.lt),yH rfl,aJ⟩
   case round=>
    obtain⟨q,C,L,hq,rfl,he,ho,ad,M⟩:=hrel
    have ai:=he.out.cell (i:=20) rfl
    have RX:=yH (D.out.below M.out J.out)
    have WX:=yH (r.out.trans (M.out.mono r.out.size))
    by_cases hlt:q<t
    ·have Dr:=yH (D1.out.below M.out (yR _)).drew
     have aT:=yH (aMC (itA c) (itH c) q)
     have aI:=yH (show itA c q=u8 c (48+16*q)from rfl)
     have aU:=yH (show itH c q=u8 c (48+16*q+8)from rfl)
     have ak:=yH (show Blk (wr.alloc (.cells #[.int .u64 (u8 c (48+16*q)),.int .u64 (u8 c (48+16*q+8))] 145)).drew wr.heap.size [.int .u64 (u8 c (48+16*q)),.int .u64 (u8 c (48+16*q+8))] 145 from Blk.new wr _ _)
     have aD:=he.out.lt
     have Na:=yH ((yB wr.heap.size wr).alloc (yR _) (.cells #[.int .u64 (u8 c (48+16*q)),.int .u64 (u8 c (48+16*q+8))] 145)).drew
     have u1:wr.drew.cell? ⟨w2.heap.size,20,none⟩=some (.slice C q L):=ai
     have v1:=(Na.out.cell (p:=⟨w2.heap.size,20,none⟩) aD).trans ai
     have a0:((48+16*q:Nat):Int)<((48+16*t:Nat):Int):=by omega
     have aM:IntKind.u64.wrap (48+16*(q:Int))=48+16*(q:Int):=by rw[IntKind.wrap_u64];omega
     have aR:IntKind.i64.wrap (48+16*(q:Int)+8)=48+16*(q:Int)+8:=by rw[IntKind.wrap_i64];omega
     have av:IntKind.u64.wrap (48+16*(q:Int)+8)=48+16*(q:Int)+8:=by rw[IntKind.wrap_u64];omega
     go_wp2_with fail
     have a8:=ad
     go_cut [10]from 66 to 79 (fun z wx=> ∃(A2:Option Addr) (c2:Nat),z= .int .i64 ((48+16*q:Nat):Int)∧Hid (Blk wx w2.heap.size (entL (u8 c 0) (u8 c 8) (u8 c 16) (itK c) (u8 c 40) A2 (q+1) c2) 150)∧Hid (OwnE 145 2 wx (w2.heap.size+1) A2 (q+1) c2 (two (itA c) (itH c) (q+1)))∧Hid (Below w2.heap.size w2 wx))
     case first=>
      go_region_law (first
       |(refine aBT aMF (o:=⟨some 79,_,_,_,_,_⟩) rfl (.tmp 67) (.tmp 78) rfl (w2.heap.size+1) C q L _ rfl ((ho.out.alloc (.cells #[.int .u64 (u8 c (48+16*q)),.int .u64 (u8 c (48+16*q+8))] 145)).drew) ⟨wr.heap.size,0,none⟩ 1 1 [.int .u64 (u8 c (48+16*q)),.int .u64 (u8 c (48+16*q+8))] rfl rfl (Blk.news ak.out) (by intro u hu;simp at hu;rcases hu with rfl|rfl<;>rfl) (by omega) (by omega) ?_;intro A2 c2 w4 af az;rw[←aI.out,←aU.out,←aT.out]at af;have aO:=yH af;have ay:=((yB wr.heap.size wr).alloc (yR _) (.cells #[.int .u64 (u8 c (48+16*q)),.int .u64 (u8 c (48+16*q+8))] 145)).drew;have ae:=Below.trans (ay.mono (by omega:w2.heap.size+1≤wr.heap.size)) az;have aV:=yH (M.out.trans (ae.mono (Nat.le_succ _)));have E4:=yH (he.out.below ae (Nat.lt_succ_self _));have x1:=E4.out.cell (i:=20) rfl;have y1:=E4.out.frozen 20;clear af az ay ae)
       |(go_simp;go_at_call 159;(first|(with_reducible refine(s.out (48+16*q) _ _ _ _ _ Dr.out y.out (by omega) (by omega) (by omega)).mono ?_)|(with_reducible refine(s.out (48+16*q+8) _ _ _ _ _ Dr.out y.out (by omega) (by omega) (by omega)).mono ?_));rintro e w' ⟨rfl,rfl⟩))
      all_goals
       go_wp2_with fail
       go_meet
       case rel=>exact⟨A2,c2,rfl,yH (E4.out.set_ 20 _),yH (OwnE.farE aO.out (by simp) _),yH (aV.out.setCell (yR _) _)⟩
     case rest=>
      rename World=>W5
      obtain⟨A2,c2,rfl,E5,O5,B5⟩:=hcut
      clear u1 v1 aM aR av Na ak Dr
      have R5:=yH (D.out.below B5.out.drew J.out)
      have aE:=yH (r.out.trans (B5.out.drew.mono r.out.size))
      have bb:W5.drew.cell? ⟨w2.heap.size,20,none⟩=some (.slice A2 (q+1) c2):=E5.out.cell (i:=20) rfl
      rcases Nat.eq_zero_or_pos q with an|an
      ·subst an
       go_wp2_with fail
       go_region
       all_goals
        go_wp2
        go_roundw
        case rel=>exact⟨1,A2,c2,by omega,by go_num,yH E5.out.drew,yH O5.out.drew,yH rfl,yH B5.out.drew⟩
        case measure=>simp[intOf];omega
      ·obtain⟨p,rfl⟩: ∃p,q=p+1:=⟨q-1,by omega⟩
       have hI:=own_in2 O5.out.drew (fun i _=>aCE X.out _) (fun i _=>aCE X.out _)
       obtain⟨g5,o5,ea,bg,k1,_⟩:=hI (p+1) (by omega)
       obtain⟨g6,o6,eb,_,k2,_⟩:=hI p (by omega)
       rw[ea]at eb
       simp at eb
       obtain⟨rfl,rfl⟩:=eb
       subst ea
       have hs:=aGT (itA c) (p+1) (by omega)
       rw[ad.out,Bool.true_and]at hs
       have hg:decide ((0:Int)<((p+1:Nat):Int))=true:=decide_eq_true (by omega)
       have ba:(0:Int)<((p+1:Nat):Int):=by omega
       have hw:IntKind.i64.wrap (((p+1:Nat):Int)-1)=(p:Int):=by rw[IntKind.wrap_i64];omega
       have a1:((p+1:Nat):Int)-1=(p:Int):=by omega
       have bc:(0:Int)≤(p:Int):=by omega
       have a9:(p:Int)<((p+1+1:Nat):Int):=by omega
       have a5:((p+1:Nat):Int)<((p+1+1:Nat):Int):=by omega
       by_cases a3:itA c (p+1)≤itA c p
       ·have hf:risB (itA c) t=false:=by
         cases hq:risB (itA c) t with
         |false=>rfl
         |true=>
          have h3:=aGU (m:=p+2) hq (by omega)
          rw[hs]at h3
          have h4:itA c p<itA c (p+1):=by simpa using h3
          omega
        have f:=yH (ao.out.trans (if_neg (by rw[hf];decide)))
        have d:=yH (Y.out (by rw[f.out];decide))
        clear hs hf hI
        go_wp2_with fail
        go_region
        all_goals
         go_wp2_with(refine wpList_store_row rfl 150 (.tmp 4) (.tmp 99) rfl w.heap.size _ rfl rfl 150 _ R5.out aAD rfl aCt ?_)
         refine bodyPost_ret (v:= .tuple #[entV 0 0 0 (fun _=>0) 0 none 0 0,.int .i64 11]) (by exact aAr Tryz.results190 _ _ w.heap.size 150 _ (0,0) _ _ rfl rfl (Blk.setRow R5.out zL) Tryz.underlying150 rfl aAD) rfl ?_
         unfold EntTold2
         rw[d.out.1,d.out.1,d.out.1,d.out.1,d.out.2.1,d.out.2.2,f.out]
         exact⟨none,0,rfl,aAi aE.out (yR _) _,aBh _ _ _ _,fun b g e=>by cases e⟩
       ·have aL:=yH (show risB (itA c) (p+2)=true by rw[hs];exact decide_eq_true (show itA c (p+1-1)<itA c (p+1)by rw[Nat.add_sub_cancel];omega))
        clear hs hI
        go_wp2_with fail
        go_region
        all_goals
         go_wp2
         go_roundw
         case rel=>exact⟨p+2,some ⟨g5,o5,none⟩,c2,by omega,by go_num,yH E5.out.drew,yH O5.out.drew,aL,yH B5.out.drew⟩
         case measure=>simp[intOf];omega
    ·obtain rfl:q=t:=by omega
     have f:=yH (ao.out.trans (if_pos ad.out))
     have d:=yH (aP.out f.out)
     have HI:=yH (own_in2 ho.out (fun i _=>aCE X.out _) (fun i _=>aCE X.out _))
     have aW:=yH (fun b g (e:C=some ⟨b,g,none⟩)=>show b≠w.heap.size by
      have h1:=Dc.OwnE.ltB ho.out b (by rw[e];rfl)
      have h2:=J.out
      omega)
     have aN:=yH (fun b g (e:C=some ⟨b,g,none⟩)=>show w.heap.size≤b by
      have h1:=Dc.OwnE.ltB ho.out b (by rw[e];rfl)
      have h2:=J.out
      omega)
     go_wp2_with(first
      |(refine wpList_load_row rfl 150 (.tmp 8) rfl w2.heap.size rfl 150 (entL (u8 c 0) (u8 c 8) (u8 c 16) (itK c) (u8 c 40) C q L).toArray (0,0) _ he.out Tryz.underlying150 rfl aAD ?_)
      |(refine wpList_store_row rfl 150 (.tmp 4) (.tmp 100) rfl w.heap.size (entL (u8 c 0) (u8 c 8) (u8 c 16) (itK c) (u8 c 40) C q L).toArray rfl rfl 150 _ RX.out aAD rfl (aBB _ _ _ _ _ _ _ _) ?_))
     refine bodyPost_ret (v:= .tuple #[entV (u8 c 0) (u8 c 8) (u8 c 16) (itK c) (u8 c 40) C q L,.int .i64 0]) (by exact aAr Tryz.results190 _ _ w.heap.size 150 _ (0,0) _ _ rfl rfl (Blk.setRow RX.out (entL (u8 c 0) (u8 c 8) (u8 c 16) (itK c) (u8 c 40) C q L)) Tryz.underlying150 rfl aAD) rfl ?_
     unfold EntTold2
     obtain⟨t0,t8,aC,aH,tK,tN⟩:=d.out
     rw[t0,t8,aC,aH,tK,tN,f.out,aA.out,aK.out]
     exact⟨C,L,rfl,aAi WX.out (yR _) _,In2.setRow HI.out (fun b g e=>aW.out b g e) _,aN.out⟩
end Yn
namespace Mb
open Bytes8 Blk8 Own8 OwnE LeNum Ob Od Ma Kf
theorem aId (k:Nat)(w:World):Calls Tryz.prog 116 #[.int .i64 (k:Int)] w fun e w'=>e= .returned (.int .i64 (roomN k:Nat))∧w=w':=by
 by_cases h:6<k
 ·have a:decide ((6:Int)<(k:Int))=true:=by simp;omega
  rw[show roomN k=256 by unfold roomN;rw[if_pos h]]
  go_enter Tryz.func116,Tryz.ntmps116
  go_wp2
  go_ret
  exact⟨rfl,rfl⟩
 ·rcases k with _|_|_|_|_|_|_|k
  all_goals first
   |omega
   |(go_enter Tryz.func116,Tryz.ntmps116
     go_wp2
     go_ret
     exact⟨rfl,rfl⟩)
theorem aOu {w:World}{base g n c:Nat}{l:List Int}(h:Own w base (some ⟨g,0,none⟩) n c l)(i:Nat){x:Int}(b:0≤x)(a:x<256):Own (w.setCell ⟨g,i,none⟩ (.int .u8 x)) base (some ⟨g,0,none⟩) n c (l.set i x):=by
 refine⟨h.1.set i b a,by rw[List.length_set];exact h.2.1,by simpa using h.2.2.1,?_⟩
 have:=(h.2.2.2.stored i (.int .u8 x)).1
 rw[List.map_set]
 exact this
theorem aEI {w:World}{base g n c:Nat}{l:List Int}(h:Own w base (some ⟨g,0,none⟩) n c l):base≤g∧g<w.heap.size:=h.lt g rfl
structure Put8 (bb:Nat)(w w':World):Prop where
 kept:KeptF (One bb) w w'
 size:w'.heap.size=w.heap.size
theorem Put8.refl (a:Nat)(w:World):Put8 a w w:=⟨KeptF.refl _ _,rfl⟩
theorem Put8.set {a:Nat}{w0 w:World}(h:Put8 a w0 w)(i:Nat)(u:Value):Put8 a w0 (w.setCell ⟨a,i,none⟩ u):=⟨h.kept.setCell (p:=⟨a,i,none⟩) (fun _=>(rfl:a=a)) u,by simpa using h.size⟩
theorem Put8.trans {d:Nat}{a b c:World}(h:Put8 d a b)(k:Put8 d b c):Put8 d a c:=⟨h.kept.trans k.kept fun _ _ h=>h,k.size.trans h.size⟩
theorem aCu {F:Nat→Prop}{w w':World}{g:Nat}{a:List Value}{T:TypeId}(h:Blk w g a T)(b:KeptF F w w')(c: ¬F g):Blk w' g a T:=(b.block g h.lt c).trans h
theorem put_any (g b cb n a:Nat)(s:List Value)(T:TypeId)(l:List Int)(v:Int)(B:Nat)(w:World)(hs:Blk w g s T)(p:s[143]? =some (.slice (some ⟨b,0,none⟩) n cb))(q:Own w B (some ⟨b,0,none⟩) n cb l)(m:g≠b)(H:a+8≤n)(E:n≤4000000):
 Calls Tryz.prog 72 #[.pointer (some ⟨g,0,none⟩),.int .u64 (a:Int),.int .u64 v] w fun e w'=>e= .returned (.tuple #[])∧Own w' B (some ⟨b,0,none⟩) n cb (put8 l a v)∧Put8 b w w':=by
 have A:=yH hs
 have C:=yH p
 have y:=yH q.2.1
 clear hs p
 go_enter Tryz.func72,Tryz.ntmps72
 go_wp2
 go_loopw [6] (fun i wr=> ∃k:Nat,k≤8∧i= .int .i64 (k:Int)∧Hid (Own wr B (some ⟨b,0,none⟩) n cb (over l a (lowB v k)))∧Hid (Put8 b w wr)) (fun i _=>8-(intOf i).toNat)
 case atStart=>exact⟨0,Nat.zero_le _,rfl,yH (by rw[show lowB v 0=[]from rfl,aMl];exact q),yH (Put8.refl _ _)⟩
 case round=>
  obtain⟨k,F,rfl,j,o⟩:=hrel
  by_cases t:k<8
  ·have D:=(aCu A.out o.out.kept m).cell C.out
   have c:=j.out.2.2.2.cellAt (a+k) (by omega)
   have u:=j.out.2.2.2.frozenAt (a+k)
   obtain⟨z,f⟩: ∃z,(over l a (lowB v k))[a+k]? =some z:=⟨_,yG (by rw[j.out.2.1];omega)⟩
   rw[List.getElem?_map,f]at c
   clear f
   have d:=yH (aOu j.out (a+k) (Int.emod_nonneg (v/256^k) (by decide:(256:Int)≠0)) (Int.emod_lt_of_pos (v/256^k) (by decide)))
   rw[show(over l a (lowB v k)).set (a+k) (v/256^k%256)=over l a (lowB v (k+1))by
    have e:=aJ6 l a (lowB v k) (v/256^k%256) (by rw[aAj,y.out];omega)
    rw[aAj]at e
    rw[aDL,e]]at d
   rw[←aDK]at d
   have x:a+k<n:=by omega
   generalize r:a+k=G at*
   go_wp2
   go_roundw
   case rel=>exact⟨k+1,by omega,by go_num,d,yH (o.out.set _ _)⟩
   case measure=>simp[intOf];omega
  ·obtain rfl:k=8:=by omega
   go_wp2
   go_end0
   exact⟨rfl,j.out,o.out⟩
theorem aF1 (g b cb n a:Nat)(z:Int)(m:z=(a:Int))(d:List Value)(T:TypeId)(l:List Int)(v:Int)(B:Nat)(w:World)(hs:Blk w g d T)(f:d[143]? =some (.slice (some ⟨b,0,none⟩) n cb))(i:Own w B (some ⟨b,0,none⟩) n cb l)(c:g≠b)(k:a+8≤n)(j:n≤4000000):
 Calls Tryz.prog 72 #[.pointer (some ⟨g,0,none⟩),.int .u64 z,.int .u64 v] w fun e w'=>e= .returned (.tuple #[])∧Own w' B (some ⟨b,0,none⟩) n cb (put8 l a v)∧Put8 b w w':=by
 subst m;exact put_any g b cb n a d T l v B w hs f i c k j
end Mb
end Go.Proofs.YteaikbodkgjkdaaGreat
