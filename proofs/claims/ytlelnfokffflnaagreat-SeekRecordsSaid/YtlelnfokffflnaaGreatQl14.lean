/-
  Texts beneath the proof.
-/
import Derived.Test.YtlelnfokffflnaaGreatQl13
set_option linter.unusedVariables false
set_option linter.unusedSimpArgs false
set_option maxRecDepth 100000
set_option maxHeartbeats 8000000
open Go.ChangeShapes Go.WideShapes Go.ChangeAt Go.RowKit
namespace Go.Proofs.YtlelnfokffflnaaGreat
namespace Yj
open Ob Yc
theorem aN2 (f g:Nat→Int)(n i:Nat)(h:i<n):(prs f g n)[i*2]? =some (f i)∧(prs f g n)[i*2+1]? =some (g i):=by
 induction n with
 |zero=>omega
 |succ n ih=>
  have b:=aFQ f g n
  rw[aB7]
  rcases Nat.lt_or_ge i n with a|a
  ·rw[List.getElem?_append_left (by omega),List.getElem?_append_left (by omega)]
   exact ih a
  ·obtain rfl:i=n:=by omega
   rw[List.getElem?_append_right (by omega),List.getElem?_append_right (by omega),show i*2-(prs f g i).length=0 by omega,show i*2+1-(prs f g i).length=1 by omega]
   exact⟨rfl,rfl⟩
theorem aMA (f g:Nat→Int)(n i:Nat)(h:i<n):(prs f g n).getD (2*i) 0=f i∧(prs f g n).getD (2*i+1) 0=g i:=by
 obtain⟨b,a⟩:=aN2 f g n i h
 rw[Nat.mul_comm 2 i,List.getD_eq_getElem?_getD,List.getD_eq_getElem?_getD,b,a]
 exact⟨rfl,rfl⟩
def Wd (f:Nat→Int)(n:Nat):Prop:= ∀i,i<n→0≤f i∧f i≤18446744073709551615
theorem nums_at (l m:List Int)(i j:Nat)(c:j=8*i)(a:i<l.length)(b:0≤l.getD i 0∧l.getD i 0≤18446744073709551615):u8 (nums l++m) j=l.getD i 0:=by
 subst c
 exact aD8 l m i a b
theorem aMB (f g:Nat→Int)(n i:Nat)(h:i<n)(d:Wd f n)(c:Wd g n)(m:List Int):u8 (nums (prs f g n)++m) (16*i)=f i∧u8 (nums (prs f g n)++m) (16*i+8)=g i:=by
 obtain⟨b,a⟩:=aMA f g n i h
 have e:=aFQ f g n
 refine⟨(nums_at _ m (2*i) _ (by omega) (by omega) (by rw[b];exact d i h)).trans b,(nums_at _ m (2*i+1) _ (by omega) (by omega) (by rw[a];exact c i h)).trans a⟩
end Yj
namespace Yi
open Bytes8 Blk8 OwnE Dc Yc Yg Yj
def two (f g:Nat→Int)(k:Nat):List Value:=(prs f g k).map (Value.int .u64)
theorem aMC (f g:Nat→Int)(k:Nat):two f g (k+1)=two f g k++ [.int .u64 (f k),.int .u64 (g k)]:=by unfold two;rw[aB7];simp
theorem own_in2 {E:TypeId}{w:World}{base c k:Nat}{A:Option Addr}{f g:Nat→Int}(h:OwnE E 2 w base A k c (two f g k))(l:Wd f k)(e:Wd g k):In2 w A k f g:=fun i hi=>by
 have p:(two f g k).length=2*k:=by unfold two;rw[List.length_map,aFQ]
 obtain⟨j,m⟩:=aN2 f g k i hi
 obtain⟨b,rfl,_,a,n⟩:=h.cell (i:=i*2) (by omega)
 obtain⟨b2,d,_,_,o⟩:=h.cell (i:=i*2+1) (by omega)
 simp at d
 subst d
 refine⟨b,0,rfl,a,?_,?_,l i hi,e i hi⟩
 ·rw[Nat.zero_add,n];unfold two;rw[List.getElem?_map,j];rfl
 ·rw[Nat.zero_add,o];unfold two;rw[List.getElem?_map,m];rfl
end Yi
namespace Yz
open OwnE
theorem OwnE.farE {E:TypeId}{size:Nat}{w:World}{base:Nat}{A:Option Addr}{n c:Nat}{xs:List Value}(h:OwnE E size w base A n c xs){a:Addr}(b:a.block<base)(u:Value):OwnE E size (w.setCell a u) base A n c xs:=
 ⟨by simpa using h.1,ownsRow_setCell_below h.2 b u⟩
theorem wpList_build_as {P:Program}{c:Array Oper}{rest:List Oper}{o:Oper}{a:Act}{w:World}{Q:Exit→Act→World→Prop}(e:o.guard=none)(t:TypeId)(b:Array (Nat×Operand))(f:o.op= .build t b)(cells:Array Value)
 (d:P.built t (b.map fun(i,x)=>(i,a.eval x)).toList=some cells)(h:wpList P c Q rest (a.put o.dst (.agg cells)) w):wpList P c Q (o::rest) a w:=
 wpList_build e t b f (by rw[d];rfl) (by rw[d];exact h)
end Yz
namespace Yl
open Bytes8 OwnE Ob Oc Od Oi Kf Yp
theorem ru_z (A:Option Addr)(l:List Int)(n a i:Nat)(z:Int)(w:World)(c:Bytes w A l)(f:l.length=n)(g:n≤1000000)(b:i+8≤n)(d:z=(i:Int)):
 Calls Tryz.prog 94 #[.slice A n a,.int .u64 z] w fun e w'=>e= .returned (.int .u64 (u8 l i))∧w=w':=by
 subst d;exact aIJ A l n a i w c f g b
def rcode (l:List Int)(a:Nat)(k:Int):Int:=if code l a≠0 then code l a else if kindL l a≠k then 4 else 0
theorem aKf (l:List Int)(a:Nat)(k:Int)(e d:Nat):ecode l a k e d=if rcode l a k≠0 then rcode l a k else if(bodyL l a).length<e+d∨(bodyL l a).length%d≠0 then 5 else 0:=by
 unfold ecode rcode
 by_cases b:code l a≠0
 ·rw[if_pos b,if_pos b,if_pos b]
 ·rw[if_neg b,if_neg b]
  by_cases c:kindL l a≠k
  ·rw[if_pos c,if_pos c,if_pos (by decide)]
  ·rw[if_neg c,if_neg c];rfl
def Rbodied (l:List Int)(a:Nat)(k:Int)(w:World)(e:Ending)(w':World):Prop:=
 ∃B m cb,e= .returned (.tuple #[.slice B m cb,.int .i64 (rcode l a k)])∧Below w.heap.size w w'∧(rcode l a k=0→Bytes w' B (bodyL l a)∧(bodyL l a).length=m∧m≤1000000)
theorem aKg (A:Option Addr)(l:List Int)(n b a:Nat)(k:Int)(w:World)(g:Bytes w A l)(i:l.length=n)(o:n≤1000000)(p:n≤b)(d:b≤maxLen)(q:a≤18446744073709551615):
 Calls Tryz.prog 153 #[.slice A n b,.int .u64 (a:Int),.int .i64 k] w (Rbodied l a k w):=by
 refine(aGY A l n b a k w g i o p d q).mono fun e w' ⟨B,m,cb,h1,h2,h3⟩=>⟨B,m,cb,h1,h2,fun h=>?_⟩
 unfold rcode at h
 by_cases c:code l a=0
 ·rw[if_neg (by omega)]at h
  by_cases f:kindL l a=k
  ·obtain⟨s,j,_,_,r,_⟩:=h3 c f
   exact⟨s,j,r⟩
  ·rw[if_pos f]at h;omega
 ·rw[if_pos c]at h;exact absurd h c
theorem OwnE.farE {E:TypeId}{size:Nat}{w:World}{base:Nat}{A:Option Addr}{n c:Nat}{xs:List Value}(h:OwnE E size w base A n c xs){a:Addr}(b:a.block<base)(u:Value):OwnE E size (w.setCell a u) base A n c xs:=
 ⟨by simpa using h.1,ownsRow_setCell_below h.2 b u⟩
end Yl
namespace Ym
open Bytes8 Blk8 Own8 OwnE Dc Ob Od Rows2 Kf Yc Yp Yd Ye Yg Yh Yj Yl
theorem aBC:Elt 27 30 1 8 (.int .u64 0):=⟨Tryz.underlying30,by kernel_rfl,rfl,by decide⟩
theorem aA3:(Tryz.prog.info? 198).map (·.size)=some 2:=by kernel_rfl
def wds (f:Nat→Int)(k:Nat):List Value:=(ints f k).map (Value.int .u64)
theorem aMD (f:Nat→Int)(k:Nat):wds f (k+1)=wds f k++ [.int .u64 (f k)]:=by unfold wds;rw[ints_succ];simp
theorem aME {E:TypeId}{w:World}{base c k:Nat}{A:Option Addr}{f:Nat→Int}(h:OwnE E 1 w base A k c (wds f k))(d:Wd f k):InInts .u64 w A k f:=fun i hi=>by
 have g:(wds f k).length=k:=by unfold wds;rw[List.length_map,ints_len]
 obtain⟨b,rfl,_,a,e⟩:=h.cell (i:=i) (by omega)
 refine⟨b,0,rfl,a,?_,?_⟩
 ·rw[Nat.zero_add,e];unfold wds ints;simp[hi]
 ·have:=d i hi
  simp[Lit.wf,IntKind.min,IntKind.max,IntKind.signed,IntKind.bits]
  omega
theorem aF0 (A:Option Addr)(l:List Int)(n D a:Nat)(w:World)(C:Bytes w A l)(hL:l.length=n)(hn:n≤1000000)(hc:n≤D)(ai:D≤maxLen)(ha:a≤18446744073709551615):
 Calls Tryz.prog 152 #[.slice A n D,.int .u64 (a:Int)] w (ArrTold2 l a w):=by
 have b0:=yH ((Below.refl w.heap.size w).alloc (yR _) (arrC 198 0 none 0 0))
 have R0:=yH (show Blk (w.alloc (arrC 198 0 none 0 0)) w.heap.size (aL 0 none 0 0) 198 from Blk.new w _ _)
 have F:=yH (aKg A l n D a 6 (w.alloc (arrC 198 0 none 0 0)) (C.below b0.out (yR _)) hL hn hc ai ha)
 unfold Rbodied at F
 have av:=yH (aDJ (a:=a) C.1)
 have E:ecode l a 6 8 8≠0→arX l a=0∧arM l a=0:=fun h=>⟨if_neg h,if_neg h⟩
 have q:ecode l a 6 8 8=0→arX l a=u8 (bodyL l a) 0∧arM l a=arN (bodyL l a):=fun h=>⟨if_pos h,if_pos h⟩
 have I:=aKf l a 6 8 8
 by_cases N:rcode l a 6≠0
 ·rw[if_pos N]at I
  have f:=yH I
  have x:=yH (E (by rw[I];exact N))
  clear E q C hL I
  generalize rcode l a 6=an at*
  go_enter Tryz.func152,Tryz.ntmps152
  go_wp2_with(first
   |(go_at_call 153;(with_reducible refine F.out.mono ?_);rintro e w2 ⟨B,m,cb,rfl,c,_⟩;have r:=yH (R0.out.below c R0.out.lt);have g:=yH (b0.out.trans (c.mono b0.out.size));clear c)
   |(refine wpList_store_row rfl 198 (.tmp 4) (.tmp 18) rfl w.heap.size _ rfl rfl 198 _ r.out aA3 rfl (by simp[Value.oneCell']) ?_))
  refine bodyPost_ret (v:= .tuple #[arrV 0 none 0 0,.int .i64 an]) (by exact aAr Tryz.results152 _ _ w.heap.size 198 _ (0,0) _ _ rfl rfl (Blk.setRow r.out (aL 0 none 0 0)) Tryz.underlying198 rfl aA3) rfl ?_
  unfold ArrTold2
  rw[x.out.1,x.out.2,f.out]
  exact⟨none,0,rfl,aAi g.out (yR _) _,fun i hi=>absurd hi (by omega),fun b off e=>by cases e⟩
 have h0:rcode l a 6=0:=by omega
 rw[if_neg N]at I
 rw[h0]at F
 have aa:=yH fun(i:Nat) (z:Int) (B:Option Addr) (m cb:Nat) (W:World) (hB:Bytes W B (bodyL l a)) (hm:(bodyL l a).length=m) (hm2:m≤1000000) (hz:z=(i:Int)) (hi:i+8≤m)=>ru_z B (bodyL l a) m cb i z W hB hm hm2 hi hz
 have Y:=yH I
 have ao:=yH E
 have ae:=yH q
 have aj:=yH (show arN (bodyL l a)=((bodyL l a).length-8)/8 from rfl)
 clear E q C hL N h0 I
 generalize G:bodyL l a=d at*
 have ag:=yH G
 clear G
 go_enter Tryz.func152,Tryz.ntmps152
 go_upto_region 4 with(go_at_call 153;(with_reducible refine F.out.mono ?_);rintro e w2 ⟨B,m,cb,rfl,c,V⟩)
 obtain⟨d1,d2,d5⟩:=V (by first|rfl|trivial)
 have r:=yH (R0.out.below c R0.out.lt)
 have g:=yH (b0.out.trans (c.mono b0.out.size))
 have D1:=yH d1
 have M:=yH d2
 clear d1 d2 c V
 have J:=M.out
 by_cases j:m<16∨m%8≠0
 ·have f:=yH (Y.out.trans (if_pos (by rw[M.out];omega)))
  have x:=yH (ao.out (by rw[f.out];decide))
  by_cases az:m<16
  ·have e1:(m:Int)<16:=by omega
   clear J j
   go_wp2_with(refine wpList_store_row rfl 198 (.tmp 4) (.tmp 29) rfl w.heap.size _ rfl rfl 198 _ r.out aA3 rfl (by simp[Value.oneCell']) ?_)
   refine bodyPost_ret (v:= .tuple #[arrV 0 none 0 0,.int .i64 5]) (by exact aAr Tryz.results152 _ _ w.heap.size 198 _ (0,0) _ _ rfl rfl (Blk.setRow r.out (aL 0 none 0 0)) Tryz.underlying198 rfl aA3) rfl ?_
   unfold ArrTold2
   rw[x.out.1,x.out.2,f.out]
   exact⟨none,0,rfl,aAi g.out (yR _) _,fun i hi=>absurd hi (by omega),fun b off e=>by cases e⟩
  ·have e1: ¬(m:Int)<16:=by omega
   obtain⟨R,hR⟩: ∃R:Int,R=((m%8:Nat):Int):=⟨_,rfl⟩
   have e2:(m:Int).tmod 8=R:=by rw[Int.tmod_eq_emod_of_nonneg (by omega),hR];omega
   have aw:(m:Int)%8=R:=by rw[hR];omega
   have e3:(R==0)=false:=by simp;omega
   have e4:(R !=0)=true:=by simp;omega
   have e5: ¬R=0:=by omega
   clear J j hR
   go_wp2_with(refine wpList_store_row rfl 198 (.tmp 4) (.tmp 29) rfl w.heap.size _ rfl rfl 198 _ r.out aA3 rfl (by simp[Value.oneCell']) ?_)
   refine bodyPost_ret (v:= .tuple #[arrV 0 none 0 0,.int .i64 5]) (by exact aAr Tryz.results152 _ _ w.heap.size 198 _ (0,0) _ _ rfl rfl (Blk.setRow r.out (aL 0 none 0 0)) Tryz.underlying198 rfl aA3) rfl ?_
   unfold ArrTold2
   rw[x.out.1,x.out.2,f.out]
   exact⟨none,0,rfl,aAi g.out (yR _) _,fun i hi=>absurd hi (by omega),fun b off e=>by cases e⟩
 ·have f:=yH (Y.out.trans (if_neg (by rw[M.out];omega)))
  have x:=yH (ae.out f.out)
  obtain⟨t,ht⟩: ∃t,m=8+8*t:=⟨(m-8)/8,by omega⟩
  subst ht
  have X:arN d=t:=by rw[aj.out,M.out];omega
  have af:=yH X
  have e1: ¬((8+8*t:Nat):Int)<16:=by omega
  have e2:((8+8*t:Nat):Int).tmod 8=0:=by rw[Int.tmod_eq_emod_of_nonneg (by omega)];omega
  have aw:((8+8*t:Nat):Int)%8=0:=by omega
  have X0:=yH (Blk.new w2 (aL (u8 d 0) none 0 0) 198)
  have BX:=yH ((Below.refl w2.heap.size w2).alloc (yR _) (.cells (aL (u8 d 0) none 0 0).toArray 198))
  clear J j X
  go_wp2_with(go_at_call 94;(with_reducible refine(aa.out 0 0 _ _ _ _ D1.out M.out (by omega) rfl (by omega)).mono ?_);rintro e w' ⟨rfl,rfl⟩)
  go_loopw [9] (fun i wr=> ∃(k:Nat) (s:Option Addr) (y:Nat),k≤t∧i= .int .i64 ((8+8*k:Nat):Int)∧Hid (Blk wr w2.heap.size (aL (u8 d 0) s k y) 198)∧Hid (OwnE 27 1 wr (w2.heap.size+1) s k y (wds (arF d) k))∧Hid (Below w2.heap.size w2 wr)) (fun i _=>8+8*t-(intOf i).toNat)
  case atStart=>exact⟨0,none,0,Nat.zero_le _,rfl,X0,OwnE.nil _ _ (by simp),BX⟩
  case round=>
   obtain⟨k,s,y,hk,rfl,Z,ho,C⟩:=hrel
   have e0:=Z.out.cell (i:=0) rfl
   have ac:=Z.out.cell (i:=1) rfl
   by_cases hlt:k<t
   ·have Dr:=yH (D1.out.below C.out (yR _)).drew
    have ar:=yH (aMD (arF d) k)
    have ak:=yH (show arF d k=u8 d (8+8*k)from rfl)
    have al:=yH (show Blk (wr.alloc (.cells #[.int .u64 (u8 d (8+8*k))] 27)).drew wr.heap.size [.int .u64 (u8 d (8+8*k))] 27 from Blk.new wr _ _)
    have au:=Z.out.lt
    have Na:=yH ((Below.refl wr.heap.size wr).alloc (yR _) (.cells #[.int .u64 (u8 d (8+8*k))] 27)).drew
    have u1:wr.drew.cell? ⟨w2.heap.size,1,none⟩=some (.slice s k y):=ac
    have v1:=(Na.out.cell (p:=⟨w2.heap.size,1,none⟩) au).trans ac
    have ax:((8+8*k:Nat):Int)<((8+8*t:Nat):Int):=by omega
    have ay:IntKind.u64.wrap (8+8*(k:Int))=8+8*(k:Int):=by rw[IntKind.wrap_u64];omega
    go_wp2_with fail
    go_region_law (first
     |(refine aBT aBC (o:=⟨some 46,_,_,_,_,_⟩) rfl (.tmp 40) (.tmp 45) rfl (w2.heap.size+1) s k y _ rfl ((ho.out.alloc (.cells #[.int .u64 (u8 d (8+8*k))] 27)).drew) ⟨wr.heap.size,0,none⟩ 1 1 [.int .u64 (u8 d (8+8*k))] rfl rfl (Blk.news al.out) (by intro u hu;simp at hu;subst hu;rfl) (by omega) (by omega) ?_;intro A2 c2 w4 L ab;rw[←ak.out,←ar.out]at L;have ah:=yH L;have ad:=((Below.refl wr.heap.size wr).alloc (yR _) (.cells #[.int .u64 (u8 d (8+8*k))] 27)).drew;have H:=Below.trans (ad.mono (by omega:w2.heap.size+1≤wr.heap.size)) ab;have am:=yH (C.out.trans (H.mono (Nat.le_succ _)));have E4:=yH (Z.out.below H (Nat.lt_succ_self _));have x1:=E4.out.cell (i:=1) rfl;have y1:=E4.out.frozen 1;clear L ab ad H)
     |(go_simp;go_at_call 94;(with_reducible refine(aa.out (8+8*k) _ _ _ _ _ Dr.out M.out (by omega) (by omega) (by omega)).mono ?_);rintro e w' ⟨rfl,rfl⟩))
    all_goals
     go_wp2
     go_roundw
     case rel=>exact⟨k+1,A2,c2,by omega,by go_num,yH (E4.out.set_ 1 _),yH (OwnE.farE ah.out (by simp) _),yH (am.out.setCell (yR _) _)⟩
     case measure=>simp[intOf];omega
   ·obtain rfl:k=t:=by omega
    have HI:=yH (aME ho.out (fun i _=>aCE av.out _))
    have R3:=yH (r.out.below C.out r.out.lt)
    have W3:=yH (g.out.trans (C.out.mono g.out.size))
    have ap:=yH (fun b off (e:s=some ⟨b,off,none⟩)=>show b≠w.heap.size by
     have N:=Dc.OwnE.ltB ho.out b (by rw[e];rfl)
     have h2:=r.out.lt
     omega)
    have aq:=yH (fun b off (e:s=some ⟨b,off,none⟩)=>show w.heap.size≤b by
     have N:=Dc.OwnE.ltB ho.out b (by rw[e];rfl)
     have h2:=r.out.lt
     omega)
    go_wp2_with(first
     |(refine wpList_load_row rfl 198 (.tmp 8) rfl w2.heap.size rfl 198 (aL (u8 d 0) s k y).toArray (0,0) _ Z.out Tryz.underlying198 rfl aA3 ?_)
     |(refine wpList_store_row rfl 198 (.tmp 4) (.tmp 48) rfl w.heap.size (aL (u8 d 0) s k y).toArray rfl rfl 198 _ R3.out aA3 rfl (by simp[Value.oneCell']) ?_))
    refine bodyPost_ret (v:= .tuple #[arrV (u8 d 0) s k y,.int .i64 0]) (by exact aAr Tryz.results152 _ _ w.heap.size 198 _ (0,0) _ _ rfl rfl (Blk.setRow R3.out (aL (u8 d 0) s k y)) Tryz.underlying198 rfl aA3) rfl ?_
    unfold ArrTold2
    rw[f.out,x.out.1,x.out.2,af.out,ag.out]
    exact⟨_,y,rfl,aAi W3.out (yR _) _,InInts.setRow HI.out (fun b off e=>ap.out b off e) _,aq.out⟩
end Ym
end Go.Proofs.YtlelnfokffflnaaGreat
