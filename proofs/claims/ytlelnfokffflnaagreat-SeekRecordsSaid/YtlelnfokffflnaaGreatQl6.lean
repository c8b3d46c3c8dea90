/-
  Texts beneath the proof.
-/
import Derived.Deep.RegionHeld3
import Derived.Deep.CutBlock
import Derived.Test.YtlelnfokffflnaaGreatQl5
set_option linter.unusedVariables false
set_option linter.unusedSimpArgs false
set_option maxRecDepth 100000
set_option maxHeartbeats 4000000
open Go.ChangeShapes Go.WideShapes Go.ChangeAt Go.RowKit
namespace Go.Proofs.YtlelnfokffflnaaGreat
namespace Yp
open Bytes8 Blk8 Ob
def ecode (l:List Int)(a:Nat)(k:Int)(ah ea:Nat):Int:=
 if code l a≠0 then code l a else if kindL l a≠k then 4 else if(bodyL l a).length<ah+ea∨(bodyL l a).length%ea≠0 then 5 else 0
def risB (f:Nat→Int):Nat→Bool
 |0=>true
 |1=>true
 |n+2=>risB f (n+1)&&decide (f n<f (n+1))
theorem aGU (f:Nat→Int)(n:Nat)(h:0<n):risB f (n+1)=(risB f n&&decide (f (n-1)<f n)):=by
 cases n with
 |zero=>omega
 |succ n=>rfl
theorem aGV {f:Nat→Int}{n m:Nat}(h:risB f n=true)(b:m≤n):risB f m=true:=by
 induction n with
 |zero=>obtain rfl:m=0:=by omega
        exact h
 |succ n ih=>
  rcases Nat.lt_or_ge m (n+1)with a|a
  ·refine ih ?_ (by omega)
   cases n with
   |zero=>rfl
   |succ n=>rw[risB]at h;exact(Bool.and_eq_true_iff.1 h).1
  ·obtain rfl:m=n+1:=by omega
   exact h
theorem aLZ {f g:Nat→Int}{n:Nat}(h: ∀i,i<n→f i=g i):risB f n=risB g n:=by
 induction n with
 |zero=>rfl
 |succ n ih=>
  cases n with
  |zero=>rfl
  |succ n=>rw[risB,risB,ih (fun i hi=>h i (by omega)),h n (by omega),h (n+1) (by omega)]
def itA (bd:List Int)(i:Nat):Int:=u8 bd (48+16*i)
def itH (bd:List Int)(i:Nat):Int:=u8 bd (48+16*i+8)
def itN (bd:List Int):Nat:=(bd.length-48)/16
def itK (bd:List Int)(i:Nat):Int:=if i<16 then bd.getD (24+i) 0 else 0
def entC0 (l:List Int)(a:Nat):Int:=
 if ecode l a 3 48 16≠0 then ecode l a 3 48 16 else if u8 (bodyL l a) 0=0 then 13 else if risB (itA (bodyL l a)) (itN (bodyL l a))then 0 else 11
theorem aOp {a:List Int}(h:AllB a):IdOk (itK a):=fun i=>by
 unfold itK
 split
 ·have:=h.at_ (24+i)
  omega
 ·omega
theorem aQx (a:List Int)(h:40≤a.length):idL (itK a)=(a.drop 24).take 16:=by
 apply List.ext_getElem
 ·simp[idL];omega
 ·intro i c d
  have b:i<16:=c
  rw[List.getElem_take,List.getElem_drop]
  have e:itK a i=a[24+i]'(by omega):=by
   unfold itK
   rw[if_pos b,List.getD_eq_getElem?_getD,List.getElem?_eq_getElem (by omega)];rfl
  rw[←e]
  unfold idL
  rcases i with _|_|_|_|_|_|_|_|_|_|_|_|_|_|_|_|i
  all_goals first|rfl|omega
theorem aEw {l:List Int}{a n:Nat}{k:Int}{e d:Nat}(f:l.length=n)(h:ecode l a k e d=0):code l a=0∧kindL l a=k∧e+d≤(bodyL l a).length∧(bodyL l a).length%d=0∧(bodyL l a).length≤n:=by
 unfold ecode at h
 have b:code l a=0:=by
  by_cases b:code l a=0
  ·exact b
  ·rw[if_pos b]at h;exact h
 rw[if_neg (by omega)]at h
 have c:kindL l a=k:=by
  by_cases c:kindL l a=k
  ·exact c
  ·rw[if_pos c]at h;omega
 rw[if_neg (by omega)]at h
 split at h
 ·omega
 ·refine⟨b,c,by omega,by omega,?_⟩
  unfold bodyL
  simp
  omega
theorem aDJ {l:List Int}{a:Nat}(h:AllB l):AllB (bodyL l a):=(h.drop _).take _
def arN (bd:List Int):Nat:=(bd.length-8)/8
def arF (bd:List Int)(i:Nat):Int:=u8 bd (8+8*i)
def taA (bd:List Int)(i:Nat):Int:=u8 bd (16*i)
def taB (bd:List Int)(i:Nat):Int:=u8 bd (16*i+8)
end Yp
namespace Oj
open Bytes8 Blk8 Own8 OwnE Ob Oc Od Oe
theorem aQy {b c a f d e:Int}(i:0≤b∧b≤18446744073709551615)(l:0≤c∧c≤18446744073709551615)(h:0≤a∧a≤18446744073709551615)(m:0≤f∧f≤18446744073709551615)(j:0≤d∧d≤18446744073709551615)(k:0≤e∧e≤18446744073709551615):I64 [b,c,a,f,d,e]:=by
 intro v g
 simp at g
 rcases g with rfl|rfl|rfl|rfl|rfl|rfl<;>assumption
theorem aPm {b c a:Int}(f:0≤b∧b≤18446744073709551615)(g:0≤c∧c≤18446744073709551615)(e:0≤a∧a≤18446744073709551615):I64 [b,c,a]:=by
 intro v d
 simp at d
 rcases d with rfl|rfl|rfl<;>assumption
theorem aGW (l:List Int)(n m:Nat)(w:World)(g:Nat)(b:w.heap.size=g)(i:I64 l)(f:l.length=n)(d:8*n=m)(a:n≤1000):
 Calls Tryz.prog 124 #[.slice (some ⟨g,0,none⟩) n n] (w.alloc (.cells (l.map (Value.int .u64)).toArray 27)) fun e w'=> ∃A c,e= .returned (.slice A m c)∧Own w' w.heap.size A m c (nums l)∧Below w.heap.size w w':=by
 subst b d
 have h:=aEj w.heap.size n n l 27 _ (Blk.new w _ _) i f a
 exact h.mono fun e w' ⟨A,c,h1,h2,h3⟩=>⟨A,c,h1,Own.base h2 (by simp),((Below.refl w.heap.size w).alloc (yR _) _).trans (h3.mono (by simp))⟩
theorem aQc (b d a i f h:Int)(w:World)(g:Nat)(j:w.heap.size=g)(k:I64 [b,d,a,i,f,h]):
 Calls Tryz.prog 124 #[.slice (some ⟨g,0,none⟩) 6 6] (w.alloc (.cells #[.int .u64 b,.int .u64 d,.int .u64 a,.int .u64 i,.int .u64 f,.int .u64 h] 27)) fun e w'=> ∃A c,e= .returned (.slice A 48 c)∧Own w' w.heap.size A 48 c (nums [b,d,a,i,f,h])∧Below w.heap.size w w':=
 aGW [b,d,a,i,f,h] 6 48 w g j k rfl rfl (by decide)
theorem aQd (b d a:Int)(w:World)(g:Nat)(f:w.heap.size=g)(h:I64 [b,d,a]):
 Calls Tryz.prog 124 #[.slice (some ⟨g,0,none⟩) 3 3] (w.alloc (.cells #[.int .u64 b,.int .u64 d,.int .u64 a] 27)) fun e w'=> ∃A c,e= .returned (.slice A 24 c)∧Own w' w.heap.size A 24 c (nums [b,d,a])∧Below w.heap.size w w':=
 aGW [b,d,a] 3 24 w g f h rfl rfl (by decide)
theorem aPn (b d a i f h:Int)(w:World)(g:Nat)(j:w.heap.size=g)(k:I64 [b,d,a,i,f,h]):
 Calls Tryz.prog 124 #[.slice (some ⟨g,0,none⟩) 6 6] (w.alloc (.cells #[.int .u64 b,.int .u64 d,.int .u64 a,.int .u64 i,.int .u64 f,.int .u64 h] 27)).drew fun e w'=> ∃A c,e= .returned (.slice A 48 c)∧Own w' w.heap.size A 48 c (nums [b,d,a,i,f,h])∧Below w.heap.size w w':=
 (aQc b d a i f h w.drew g j k).mono fun e w' ⟨A,c,h1,h2,h3⟩=>⟨A,c,h1,h2,(Below.refl w.heap.size w).drew.trans h3⟩
theorem aPo (b d a:Int)(w:World)(g:Nat)(f:w.heap.size=g)(h:I64 [b,d,a]):
 Calls Tryz.prog 124 #[.slice (some ⟨g,0,none⟩) 3 3] (w.alloc (.cells #[.int .u64 b,.int .u64 d,.int .u64 a] 27)).drew fun e w'=> ∃A c,e= .returned (.slice A 24 c)∧Own w' w.heap.size A 24 c (nums [b,d,a])∧Below w.heap.size w w':=
 (aQd b d a w.drew g f h).mono fun e w' ⟨A,c,h1,h2,h3⟩=>⟨A,c,h1,h2,(Below.refl w.heap.size w).drew.trans h3⟩
abbrev dataV (x0 x1 x2 x3 x4 x5:Int)(A:Option Addr)(n c:Nat):Value:= .agg #[.int .u64 x0,.int .u64 x1,.int .u64 x2,.int .u64 x3,.int .u64 x4,.int .u64 x5,.slice A n c]
abbrev fieldV (x0 x1 x2:Int)(A:Option Addr)(n c:Nat):Value:= .agg #[.int .u64 x0,.int .u64 x1,.int .u64 x2,.slice A n c]
theorem aGX (j q m t r s:Int)(A:Option Addr)(l:List Int)(n d:Nat)(w:World)(L:Bytes w A l)(D:l.length=n)(hn:n≤900000)(R:I64 [j,q,m,t,r,s]):
 Calls Tryz.prog 130 #[dataV j q m t r s A n d] w (Owned (objB 1 (nums [j,q,m,t,r,s]++l)) (16+(48+n)+padN (48+n)) w):=by
 have HN:=yH fun(W:World) (g:Nat) (hg:W.heap.size=g)=>aPn j q m t r s W g hg R
 have HL:=yH D
 have HB:=yH L
 have V:=yH fun(J:Option Addr) (M:Nat) (W:World) (h:Bytes W J (nums [j,q,m,t,r,s]++l))=>aCQ 1 J (nums [j,q,m,t,r,s]++l) (48+n) M W (by decide) h (by rw[List.length_append,nums_len,D];rfl) (by omega)
 unfold Owned at V
 have b0:=yH ((Below.refl w.heap.size w).alloc (yR _) (.cells #[.int .u64 j,.int .u64 q,.int .u64 m,.int .u64 t,.int .u64 r,.int .u64 s,.slice A n d] 110))
 have k:=yH (Blk.new w [.int .u64 j,.int .u64 q,.int .u64 m,.int .u64 t,.int .u64 r,.int .u64 s,.slice A n d] 110)
 have u0:=k.out.drew.cell (i:=0) rfl;have u1:=k.out.drew.cell (i:=1) rfl;have u2:=k.out.drew.cell (i:=2) rfl;have u3:=k.out.drew.cell (i:=3) rfl;have u4:=k.out.drew.cell (i:=4) rfl;have u5:=k.out.drew.cell (i:=5) rfl;have u6:=k.out.drew.cell (i:=6) rfl
 generalize nums [j,q,m,t,r,s]=N at*
 generalize padN (48+n)=p at*
 clear L D R
 go_enter Tryz.func130,Tryz.ntmps130
 go_wp2
 go_region_held3 (fun w'=>w'.cell? ⟨w.heap.size,0,none⟩=some (.int .u64 j)∧w'.cell? ⟨w.heap.size,1,none⟩=some (.int .u64 q)∧w'.cell? ⟨w.heap.size,2,none⟩=some (.int .u64 m)∧w'.cell? ⟨w.heap.size,3,none⟩=some (.int .u64 t)∧w'.cell? ⟨w.heap.size,4,none⟩=some (.int .u64 r)∧w'.cell? ⟨w.heap.size,5,none⟩=some (.int .u64 s)∧w'.cell? ⟨w.heap.size,6,none⟩=some (.slice A n d)) (first|(with_reducible exact⟨u0,u1,u2,u3,u4,u5,u6⟩)|(with_reducible exact⟨q0,q1,q2,q3,q4,q5,q6⟩)|(with_reducible exact⟨s0,s1,Y,s3,s4,s5,Z⟩)|(with_reducible exact⟨t0,t1,t2,X,t4,t5,t6⟩)|go_keep) (first
  |(refine aAg (o:=⟨some 19,_,_,_,_,_⟩) rfl (.tmp 16) (.tmp 18) rfl _ _ 48 _ _ rfl H.out A n d l rfl (HB.out.below (b0.out.trans (B.out.mono b0.out.size)) (yR _)) HL.out (by omega) ?_;intro A3 c3 w3 z b;have G:=yH z;have F:=yH b;have u:=yH (v.out.below b k.out.lt);have s0:=u.out.cell (i:=0) rfl;have s1:=u.out.cell (i:=1) rfl;have Y:=u.out.cell (i:=2) rfl;have s3:=u.out.cell (i:=3) rfl;have s4:=u.out.cell (i:=4) rfl;have s5:=u.out.cell (i:=5) rfl;have Z:=u.out.cell (i:=6) rfl;clear z b)
  |(go_at_call 124;(with_reducible refine(HN.out _ _ (by simp)).mono ?_);rintro e w2 ⟨J,M,rfl,y,a⟩;have H:=yH y;have B:=yH a;have v:=yH (k.out.below a k.out.lt);have q0:=v.out.cell (i:=0) rfl;have q1:=v.out.cell (i:=1) rfl;have q2:=v.out.cell (i:=2) rfl;have q3:=v.out.cell (i:=3) rfl;have q4:=v.out.cell (i:=4) rfl;have q5:=v.out.cell (i:=5) rfl;have q6:=v.out.cell (i:=6) rfl;clear y a)
  |(go_at_call 127;(with_reducible refine(V.out _ _ _ G.out.bytes).mono ?_);rintro e w4 ⟨A4,c4,rfl,C,c⟩;have E:=yH C;have I:=yH c;have x:=yH (u.out.below c u.out.lt);have t0:=x.out.cell (i:=0) rfl;have t1:=x.out.cell (i:=1) rfl;have t2:=x.out.cell (i:=2) rfl;have X:=x.out.cell (i:=3) rfl;have t4:=x.out.cell (i:=4) rfl;have t5:=x.out.cell (i:=5) rfl;have t6:=x.out.cell (i:=6) rfl;clear C c))
 go_wp2
 go_ret
 have f:=(b0.out.trans (B.out.mono b0.out.size)).trans (F.out.mono b0.out.size)
 exact⟨A4,c4,rfl,Own.base E.out f.size,f.trans (I.out.mono f.size)⟩
theorem aFR (k m j:Int)(A:Option Addr)(l:List Int)(n f:Nat)(w:World)(I:Bytes w A l)(B:l.length=n)(hn:n≤900000)(L:I64 [k,m,j]):
 Calls Tryz.prog 166 #[fieldV k m j A n f] w (Owned (objB 2 (nums [k,m,j]++l)) (16+(24+n)+padN (24+n)) w):=by
 have Z:=yH fun(W:World) (g:Nat) (hg:W.heap.size=g)=>aPo k m j W g hg L
 have X:=yH B
 have HB:=yH I
 have H:=yH fun(G:Option Addr) (J:Nat) (W:World) (h:Bytes W G (nums [k,m,j]++l))=>aCQ 2 G (nums [k,m,j]++l) (24+n) J W (by decide) h (by rw[List.length_append,nums_len,B];rfl) (by omega)
 unfold Owned at H
 have b0:=yH ((Below.refl w.heap.size w).alloc (yR _) (.cells #[.int .u64 k,.int .u64 m,.int .u64 j,.slice A n f] 114))
 have q:=yH (Blk.new w [.int .u64 k,.int .u64 m,.int .u64 j,.slice A n f] 114)
 have u0:=q.out.drew.cell (i:=0) rfl;have u1:=q.out.drew.cell (i:=1) rfl;have u2:=q.out.drew.cell (i:=2) rfl;have u3:=q.out.drew.cell (i:=3) rfl
 generalize nums [k,m,j]=N at*
 generalize padN (24+n)=p at*
 clear I B L
 go_enter Tryz.func166,Tryz.ntmps166
 go_wp2
 go_region_held3 (fun w'=>w'.cell? ⟨w.heap.size,0,none⟩=some (.int .u64 k)∧w'.cell? ⟨w.heap.size,1,none⟩=some (.int .u64 m)∧w'.cell? ⟨w.heap.size,2,none⟩=some (.int .u64 j)∧w'.cell? ⟨w.heap.size,3,none⟩=some (.slice A n f)) (first|(with_reducible exact⟨u0,u1,u2,u3⟩)|(with_reducible exact⟨q0,q1,q2,q3⟩)|(with_reducible exact⟨s0,s1,R,s3⟩)|(with_reducible exact⟨Y,t1,t2,M⟩)|go_keep) (first
  |(refine aAg (o:=⟨some 13,_,_,_,_,_⟩) rfl (.tmp 10) (.tmp 12) rfl _ _ 24 _ _ rfl z.out A n f l rfl (HB.out.below (b0.out.trans (s.out.mono b0.out.size)) (yR _)) X.out (by omega) ?_;intro A3 c3 w3 x b;have F:=yH x;have E:=yH b;have r:=yH (t.out.below b q.out.lt);have s0:=r.out.cell (i:=0) rfl;have s1:=r.out.cell (i:=1) rfl;have R:=r.out.cell (i:=2) rfl;have s3:=r.out.cell (i:=3) rfl;clear x b)
  |(go_at_call 124;(with_reducible refine(Z.out _ _ (by simp)).mono ?_);rintro e w2 ⟨G,J,rfl,v,a⟩;have z:=yH v;have s:=yH a;have t:=yH (q.out.below a q.out.lt);have q0:=t.out.cell (i:=0) rfl;have q1:=t.out.cell (i:=1) rfl;have q2:=t.out.cell (i:=2) rfl;have q3:=t.out.cell (i:=3) rfl;clear v a)
  |(go_at_call 127;(with_reducible refine(H.out _ _ _ F.out.bytes).mono ?_);rintro e w4 ⟨A4,V,rfl,u,c⟩;have D:=yH u;have C:=yH c;have y:=yH (r.out.below c r.out.lt);have Y:=y.out.cell (i:=0) rfl;have t1:=y.out.cell (i:=1) rfl;have t2:=y.out.cell (i:=2) rfl;have M:=y.out.cell (i:=3) rfl;clear u c))
 go_wp2
 go_ret
 have d:=(b0.out.trans (s.out.mono b0.out.size)).trans (E.out.mono b0.out.size)
 exact⟨A4,V,rfl,Own.base D.out d.size,d.trans (C.out.mono d.size)⟩
end Oj
namespace Oh
open Bytes8 Blk8 Own8 OwnE Ob Oc Og
theorem aL0 (A:Option Addr)(l:List Int)(n B a:Nat)(w:World)(u:Bytes w A l)(y:l.length=n)(hn:n≤1000000)(ha:a≤18446744073709551615):
 Calls Tryz.prog 42 #[.slice A n B,.int .u64 (a:Int)] w (FrTold (kindL l a) (sizeL l a) (code l a) w):=by
 have b0:Below w.heap.size w (w.alloc (.cells #[.int .i64 0,.int .i64 0,.int .u64 0] 94)):=(Below.refl w.heap.size w).alloc (yR _) _
 have i:=yH b0
 have r:Hid (kindL l a=if code l a=0 then l.getD a 0 else 0):=yH rfl
 have t:Hid (sizeL l a=if code l a=0 then u8 l (a+8)else 0):=yH rfl
 have no: ∀c:Int,c≠0→code l a=c→kindL l a=0∧sizeL l a=0:=fun c h0 h=>⟨r.out.trans (if_neg (by omega)),t.out.trans (if_neg (by omega))⟩
 have HA:=yH u.1
 by_cases h1:a%8≠0
 ·have d:code l a=3:=by unfold code;rw[if_pos h1]
  obtain⟨j,m⟩:=no 3 (by decide) d
  rw[d,j,m]
  have G: ¬(a:Int)%8=0:=by omega
  clear u no r t d j m y h1
  go_enter Tryz.func42,Tryz.ntmps42
  go_wp2
  refine bodyPost_ret (v:= .tuple #[frV 0 0,.int .i64 3]) (by simp[results_cell_tmp Tryz.results42,go_sem,Result.andThen]) rfl ⟨rfl,?_⟩
  (repeat (first|(with_reducible exact i.out)|(with_reducible exact Below.refl _ _)|refine Below.setCell ?_ (by simp) _|refine Below.alloc ?_ (by simp) _|refine Below.drew ?_|refine below_drewN ?_ _))
 have G:(a:Int)%8=0:=by omega
 by_cases h2:n<a+16
 ·have d:code l a=2:=by unfold code;rw[if_neg h1,if_pos (by omega)]
  obtain⟨j,m⟩:=no 2 (by decide) d
  rw[d,j,m]
  by_cases h3:n<a
  ·have h3':(n:Int)<(a:Int):=by omega
   clear u no r t d j m y h1
   go_enter Tryz.func42,Tryz.ntmps42
   go_wp2
   refine bodyPost_ret (v:= .tuple #[frV 0 0,.int .i64 2]) (by simp[results_cell_tmp Tryz.results42,go_sem,Result.andThen]) rfl ⟨rfl,?_⟩
   (repeat (first|(with_reducible exact i.out)|(with_reducible exact Below.refl _ _)|refine Below.setCell ?_ (by simp) _|refine Below.alloc ?_ (by simp) _|refine Below.drew ?_|refine below_drewN ?_ _))
  ·have h3': ¬(n:Int)<(a:Int):=by omega
   have J:(n:Int)-(a:Int)<16:=by omega
   clear u no r t d j m y h1
   go_enter Tryz.func42,Tryz.ntmps42
   go_wp2
   refine bodyPost_ret (v:= .tuple #[frV 0 0,.int .i64 2]) (by simp[results_cell_tmp Tryz.results42,go_sem,Result.andThen]) rfl ⟨rfl,?_⟩
   (repeat (first|(with_reducible exact i.out)|(with_reducible exact Below.refl _ _)|refine Below.setCell ?_ (by simp) _|refine Below.alloc ?_ (by simp) _|refine Below.drew ?_|refine below_drewN ?_ _))
 have x:=yH fun(z:Int) (W:World) (h:Below w.heap.size w W) (hz:z=((a+8:Nat):Int))=>hz▸aIJ A l n B (a+8) W (u.below h (yR _)) y (by omega) (by omega)
 obtain⟨b,H,rfl,Y,p⟩:=u.spot (by omega)
 have L:=p a (by omega)
 have ac:=p (a+1) (by omega)
 obtain⟨Z,N⟩:=aCE u.1 (a+8)
 obtain⟨ab,V⟩:=u.1.at_ a
 obtain⟨ad,R⟩:=u.1.at_ (a+1)
 have g:code l a=if l.getD a 0<1∨7<l.getD a 0 then 4 else if l.getD (a+1) 0≠0 then 7 else if u8 l (a+8)<16 then 5 else if(n:Int)<a+u8 l (a+8)then 2 else 0:=by
  unfold code
  rw[if_neg h1,if_neg (by omega),y]
 generalize u8 l (a+8)=s at*
 generalize l.getD a 0=k at*
 generalize l.getD (a+1) 0=f at*
 have M:a+16≤n:=by omega
 have ae:(a:Int)<(n:Int):=by omega
 have af:(a:Int)+1<(n:Int):=by omega
 have aa: ¬(n:Int)<(a:Int):=by omega
 have X: ¬(n:Int)-(a:Int)<16:=by omega
 clear u p y h1 h2
 by_cases h3:k<1
 ·have d:code l a=4:=by rw[g,if_pos (Or.inl h3)]
  obtain⟨j,m⟩:=no 4 (by decide) d
  rw[d,j,m]
  clear no r t d j m g
  go_enter Tryz.func42,Tryz.ntmps42
  go_wp2_with(go_at_call 94;(with_reducible refine(x.out _ _ i.out (by omega)).mono ?_);rintro e w' ⟨rfl,rfl⟩)
  refine bodyPost_ret (v:= .tuple #[frV 0 0,.int .i64 4]) (by simp[results_cell_tmp Tryz.results42,go_sem,Result.andThen]) rfl ⟨rfl,?_⟩
  (repeat (first|(with_reducible exact i.out)|(with_reducible exact Below.refl _ _)|refine Below.setCell ?_ (by simp) _|refine Below.alloc ?_ (by simp) _|refine Below.drew ?_|refine below_drewN ?_ _))
 by_cases C:7<k
 ·have d:code l a=4:=by rw[g,if_pos (Or.inr C)]
  obtain⟨j,m⟩:=no 4 (by decide) d
  rw[d,j,m]
  clear no r t d j m g
  go_enter Tryz.func42,Tryz.ntmps42
  go_wp2_with(go_at_call 94;(with_reducible refine(x.out _ _ i.out (by omega)).mono ?_);rintro e w' ⟨rfl,rfl⟩)
  refine bodyPost_ret (v:= .tuple #[frV 0 0,.int .i64 4]) (by simp[results_cell_tmp Tryz.results42,go_sem,Result.andThen]) rfl ⟨rfl,?_⟩
  (repeat (first|(with_reducible exact i.out)|(with_reducible exact Below.refl _ _)|refine Below.setCell ?_ (by simp) _|refine Below.alloc ?_ (by simp) _|refine Below.drew ?_|refine below_drewN ?_ _))
 have o: ¬(k<1∨7<k):=by omega
 by_cases h4:f≠0
 ·have d:code l a=7:=by rw[g,if_neg o,if_pos h4]
  obtain⟨j,m⟩:=no 7 (by decide) d
  rw[d,j,m]
  clear o
  clear no r t d j m g
  go_enter Tryz.func42,Tryz.ntmps42
  go_wp2_with(go_at_call 94;(with_reducible refine(x.out _ _ i.out (by omega)).mono ?_);rintro e w' ⟨rfl,rfl⟩)
  refine bodyPost_ret (v:= .tuple #[frV 0 0,.int .i64 7]) (by simp[results_cell_tmp Tryz.results42,go_sem,Result.andThen]) rfl ⟨rfl,?_⟩
  (repeat (first|(with_reducible exact i.out)|(with_reducible exact Below.refl _ _)|refine Below.setCell ?_ (by simp) _|refine Below.alloc ?_ (by simp) _|refine Below.drew ?_|refine below_drewN ?_ _))
 by_cases D:s<16
 ·have d:code l a=5:=by rw[g,if_neg o,if_neg h4,if_pos D]
  obtain⟨j,m⟩:=no 5 (by decide) d
  rw[d,j,m]
  have q:f=0:=by omega
  subst q
  clear o h4
  clear no r t d j m g
  go_enter Tryz.func42,Tryz.ntmps42
  go_wp2_with(go_at_call 94;(with_reducible refine(x.out _ _ i.out (by omega)).mono ?_);rintro e w' ⟨rfl,rfl⟩)
  refine bodyPost_ret (v:= .tuple #[frV 0 0,.int .i64 5]) (by simp[results_cell_tmp Tryz.results42,go_sem,Result.andThen]) rfl ⟨rfl,?_⟩
  (repeat (first|(with_reducible exact i.out)|(with_reducible exact Below.refl _ _)|refine Below.setCell ?_ (by simp) _|refine Below.alloc ?_ (by simp) _|refine Below.drew ?_|refine below_drewN ?_ _))
 by_cases h6:(n:Int)<a+s
 ·have d:code l a=2:=by rw[g,if_neg o,if_neg h4,if_neg D,if_pos h6]
  obtain⟨j,m⟩:=no 2 (by decide) d
  rw[d,j,m]
  have q:f=0:=by omega
  have E:(n:Int)-(a:Int)<s:=by omega
  subst q
  clear o h4 h6
  clear no r t d j m g
  go_enter Tryz.func42,Tryz.ntmps42
  go_wp2_with(go_at_call 94;(with_reducible refine(x.out _ _ i.out (by omega)).mono ?_);rintro e w' ⟨rfl,rfl⟩)
  refine bodyPost_ret (v:= .tuple #[frV 0 0,.int .i64 2]) (by simp[results_cell_tmp Tryz.results42,go_sem,Result.andThen]) rfl ⟨rfl,?_⟩
  (repeat (first|(with_reducible exact i.out)|(with_reducible exact Below.refl _ _)|refine Below.setCell ?_ (by simp) _|refine Below.alloc ?_ (by simp) _|refine Below.drew ?_|refine below_drewN ?_ _))
 ·have d:code l a=0:=by rw[g,if_neg o,if_neg h4,if_neg D,if_neg h6]
  have j:=r.out.trans (if_pos d)
  have m:=t.out.trans (if_pos d)
  rw[d,j,m]
  have q:f=0:=by omega
  have E: ¬(n:Int)-(a:Int)<s:=by omega
  have I:=yH (show IntKind.i64.wrap k=k from IntWalk.i64_in _ (by omega))
  have F:=yH (show IntKind.u64.wrap ((a:Int)+8)=((a+8:Nat):Int)by rw[IntKind.wrap_u64];omega)
  subst q
  clear o h4 h6 no r t d j m g
  go_enter Tryz.func42,Tryz.ntmps42
  go_wp2_with(go_at_call 94;(with_reducible refine(x.out _ _ i.out (by omega)).mono ?_);rintro e w' ⟨rfl,rfl⟩)
  go_region_held3 (fun w'=>w'.cell? ⟨b,H+a,none⟩=some (.int .u8 k)) (go_keep) ((go_at_call 94;(with_reducible refine(x.out _ _ i.out.drew F.out).mono ?_);rintro e w' ⟨rfl,rfl⟩))
  rw[I.out]
  go_wp2
  refine bodyPost_ret (v:= .tuple #[frV k s,.int .i64 0]) (by simp[results_cell_tmp Tryz.results42,go_sem,Result.andThen]) rfl ⟨rfl,?_⟩
  (repeat (first|(with_reducible exact i.out)|(with_reducible exact Below.refl _ _)|refine Below.setCell ?_ (by simp) _|refine Below.alloc ?_ (by simp) _|refine Below.drew ?_|refine below_drewN ?_ _))
end Oh
namespace Oi
open Bytes8 Blk8 Own8 OwnM OwnE Ob Od Og Oh
theorem aPp (w:World)(base g:Nat)(h:base≤w.heap.size)(a:w.heap.size=g):Own (w.alloc (.cells #[] 5)) base (some ⟨g,0,none⟩) 0 0 []:=a▸Own.made w base h
theorem aDh {l:List Int}{a n:Nat}(d:l.length=n)(h:code l a=0): ∃m:Nat,sizeL l a=((16+m:Nat):Int)∧(bodyL l a).length=m∧a+16+m≤n∧bodyL l a=(l.drop (a+16)).take m∧a%8=0:=by
 have b:=aGe h
 have hs:sizeL l a=u8 l (a+8):=by unfold sizeL;rw[if_pos h]
 have c:=body_len h
 refine⟨(sizeL l a).toNat-16,by omega,by omega,by omega,rfl,b.1⟩
def RBodyNew (l:List Int)(a:Nat)(k:Int)(w:World)(e:Ending)(w':World):Prop:=
 ∃B m cb,e= .returned (.tuple #[.slice B m cb,.int .i64 (if code l a≠0 then code l a else if kindL l a≠k then 4 else 0)])∧Below w.heap.size w w'∧(code l a=0→kindL l a=k→Bytes w' B (bodyL l a)∧(bodyL l a).length=m∧m≤cb∧cb≤maxLen∧m≤1000000∧ ∀x,B=some x→w.heap.size≤x.block∧x.spot=none)
theorem aGY (A:Option Addr)(l:List Int)(n c a:Nat)(k:Int)(w:World)(u:Bytes w A l)(v:l.length=n)(V:n≤1000000)(hc:n≤c)(G:c≤maxLen)(L:a≤18446744073709551615):
 Calls Tryz.prog 153 #[.slice A n c,.int .u64 (a:Int),.int .i64 k] w (RBodyNew l a k w):=by
 have r:=yH (aL0 A l n c a w u v V L)
 unfold FrTold at r
 unfold RBodyNew
 by_cases B:code l a≠0
 ·rw[if_pos B]
  generalize code l a=cd at*
  generalize kindL l a=M at*
  generalize sizeL l a=s at*
  have H:Hid (cd≠0):=yH B
  clear u v
  go_enter Tryz.func153,Tryz.ntmps153
  go_wp2_with(go_at_call 42;(with_reducible refine r.out.mono ?_);rintro e w2 ⟨rfl,b⟩;have i:=yH b;clear b)
  go_ret2
  exact⟨none,0,0,rfl,i.out.alloc i.out.size _,fun h=>absurd h H.out⟩
 have D:code l a=0:=by omega
 obtain⟨m,hs,p,J,d,_⟩:=aDh v D
 rw[if_neg B]
 have o:sizeL l a=16+(m:Int):=by omega
 rw[D,o]at r
 by_cases h2:kindL l a≠k
 ·rw[if_pos h2]
  have H:=yH h2
  generalize kindL l a=M at*
  clear u v hs o p d B D
  go_enter Tryz.func153,Tryz.ntmps153
  go_wp2_with(go_at_call 42;(with_reducible refine r.out.mono ?_);rintro e w2 ⟨rfl,b⟩;have i:=yH b;clear b)
  go_ret2
  exact⟨none,0,0,rfl,i.out.alloc i.out.size _,fun _ h=>absurd h H.out⟩
 have t:kindL l a=k:=by omega
 rw[if_neg h2]
 rw[t]at r
 have hcut:=aHN A n c (a+16) (a+16+m) ((a:Int)+16) ((a:Int)+(16+(m:Int))) (by omega) (by omega) (by omega) (by omega)
 have y:=yH (Bytes.cut u c (a+16) m (by omega))
 rw[←d]at y
 rw[show a+16+m-(a+16)=m by omega]at hcut
 generalize c-(a+16)=cb at*
 generalize cutA A c (a+16)=C at*
 have z:=yH p
 have Y:a+16+m≤1000000:=by omega
 unfold maxLen at G
 clear u v hs o p d B D h2 t
 go_enter Tryz.func153,Tryz.ntmps153
 go_wp2_with(first
  |(go_at_call 42;(with_reducible refine r.out.mono ?_);rintro e w2 ⟨rfl,b⟩;have i:=yH (b.alloc b.size (.cells #[.int .i64 k,.int .i64 0,.int .u64 (16+(m:Int))] 94));clear b)
  |(at_builtin;refine aAd rfl (.tmp 23) (.tmp 31) rfl w.heap.size _ 0 0 [] rfl (aPp _ w.heap.size (w2.heap.size+1) i.out.size (by simp)) C m cb (bodyL l a) rfl (y.out.below (i.out.alloc i.out.size _) (yR _)) z.out (by omega) ?_;intro R Z w3 q f;rw[Nat.zero_add,List.nil_append]at q;rw[Nat.zero_add];have j:=yH q;have F:=yH f;clear q f))
 go_ret2
 refine⟨R,m,Z,rfl,(i.out.alloc i.out.size _).trans F.out,fun _ _=>⟨j.out.bytes,z.out,(aBs j.out).1,(aBs j.out).2,by omega,fun x h=>?_⟩⟩
 subst h
 rcases j.out.2.2.2.2 with⟨E,_⟩|⟨g,I,X,E,N,_⟩
 ·cases E
 ·injection E with e1
  injection e1 with e1
  subst e1
  exact⟨N,rfl⟩
end Oi
namespace Oi
open Bytes8 Blk8 Own8 OwnE Ob Og
def Bodied (l:List Int)(a:Nat)(k:Int)(c:Nat)(w:World)(e:Ending)(w':World):Prop:=
 ∃B m cb,e= .returned (.tuple #[.slice B m cb,.int .i64 (bcode l a k c)])∧Below w.heap.size w w'∧(bcode l a k c=0→Bytes w' B (bodyL l a)∧(bodyL l a).length=m∧m≤cb∧cb≤maxLen∧8*c<m∧m≤1000000)
theorem aJV (A:Option Addr)(l:List Int)(n f a c:Nat)(k:Int)(w:World)(u:Bytes w A l)(v:l.length=n)(L:n≤1000000)(G:n≤f)(y:f≤maxLen)(H:a≤18446744073709551615)(J:c≤1000):
 Calls Tryz.prog 240 #[.slice A n f,.int .u64 (a:Int),.int .i64 k,.int .i64 (c:Int)] w (Bodied l a k c w):=by
 have q:=yH (aIQ A l n f a w u v L G y H)
 unfold FrTold at q
 unfold Bodied
 have d:bcode l a k c=if code l a≠0 then code l a else if kindL l a≠k then 4 else if(bodyL l a).length≤8*c then 5 else 0:=rfl
 by_cases z:code l a≠0
 ·rw[if_pos z]at d
  rw[d]
  clear d
  generalize code l a=cd at*
  generalize kindL l a=I at*
  generalize sizeL l a=s at*
  have N:Hid (cd≠0):=yH z
  clear u v
  go_enter Tryz.func240,Tryz.ntmps240
  go_wp2_with(go_at_call 20;(with_reducible refine q.out.mono ?_);rintro e w2 ⟨rfl,b⟩;have i:=yH b;clear b)
  go_ret2
  exact⟨none,0,0,rfl,i.out.alloc i.out.size _,fun h=>absurd h N.out⟩
 have B:code l a=0:=by omega
 obtain⟨m,hs,j,F,g,_⟩:=aDh v B
 rw[if_neg z,j]at d
 have r:sizeL l a=16+(m:Int):=by omega
 rw[B,r]at q
 by_cases h2:kindL l a≠k
 ·rw[if_pos h2]at d
  rw[d]
  generalize kindL l a=I at*
  clear u v d hs r j g z B
  go_enter Tryz.func240,Tryz.ntmps240
  go_wp2_with(go_at_call 20;(with_reducible refine q.out.mono ?_);rintro e w2 ⟨rfl,b⟩;have i:=yH b;clear b)
  go_ret2
  exact⟨none,0,0,rfl,i.out.alloc i.out.size _,fun h=>absurd h (by decide)⟩
 have t:kindL l a=k:=by omega
 rw[if_neg h2]at d
 rw[t]at q
 have hcut:=aHN A n f (a+16) (a+16+m) ((a:Int)+16) ((a:Int)+(16+(m:Int))) (by omega) (by omega) (by omega) (by omega)
 have x:=yH (Bytes.cut u f (a+16) m (by omega))
 rw[←g]at x
 rw[show a+16+m-(a+16)=m by omega]at hcut
 have o:m≤f-(a+16)∧f-(a+16)≤maxLen:=by omega
 generalize f-(a+16)=cb at*
 generalize cutA A f (a+16)=C at*
 have p:=yH o
 have D:=yH j
 have M:a+16+m≤1000000:=by omega
 unfold maxLen at y
 clear u v hs r j g z B h2 t o
 by_cases h3:m≤8*c
 ·rw[if_pos h3]at d
  rw[d]
  have E:(m:Int)≤(c:Int)*8:=by omega
  clear d
  go_enter Tryz.func240,Tryz.ntmps240
  go_wp2_with(go_at_call 20;(with_reducible refine q.out.mono ?_);rintro e w2 ⟨rfl,b⟩;have i:=yH b;clear b)
  go_ret2
  exact⟨none,0,0,rfl,i.out.alloc i.out.size _,fun h=>absurd h (by decide)⟩
 ·rw[if_neg h3]at d
  rw[d]
  have E: ¬(m:Int)≤(c:Int)*8:=by omega
  clear d
  go_enter Tryz.func240,Tryz.ntmps240
  go_wp2_with(go_at_call 20;(with_reducible refine q.out.mono ?_);rintro e w2 ⟨rfl,b⟩;have i:=yH b;clear b)
  go_ret2
  exact⟨C,m,cb,rfl,i.out.alloc i.out.size _,fun _=>⟨x.out.below (i.out.alloc i.out.size _) (yR _),D.out,p.out.1,p.out.2,by omega,by omega⟩⟩
theorem aL1 (A:Option Addr)(l:List Int)(n b a c:Nat)(k z:Int)(w:World)(f:Bytes w A l)(g:l.length=n)(h:n≤1000000)(i:n≤b)(d:b≤maxLen)(j:a≤18446744073709551615)(e:c≤1000)(m:z=(c:Int)):
 Calls Tryz.prog 240 #[.slice A n b,.int .u64 (a:Int),.int .i64 k,.int .i64 z] w (Bodied l a k c w):=by
 subst m;exact aJV A l n b a c k w f g h i d j e
end Oi
namespace Oj
end Oj
namespace Ga
open Bytes8 Blk8 Own8 LeNum Ob
structure HD where
 cp:Int
 ic:Int
 st:Int
 I:Nat→Int
 N:Nat→Int
 ta:Int
 ti:Int
 te:Int
def HD.at_ (h:HD)(m i:Nat):Value:=
 if i<3 then(if i=0 then .int .u32 h.cp else if i=1 then .int .u32 h.ic else .int .i64 h.st)
 else if i<67 then .int .u8 (h.I (i-3))
 else if i<67+m then .int .u64 (h.N (i-67))
 else if i=67+m then .int .u32 h.ta
 else if i=68+m then .int .u32 h.ti
 else .int .u64 h.te
def HD.cells (h:HD)(m:Nat):List Value:=(List.range (70+m)).map (h.at_ m)
theorem HD.len (h:HD)(m:Nat):(h.cells m).length=70+m:=by simp[HD.cells]
theorem HD.get (h:HD)(m i:Nat)(a:i<70+m):(h.cells m)[i]? =some (h.at_ m i):=by simp[HD.cells,a]
theorem HD.get_I (h:HD)(m i:Nat)(a:i<64):(h.cells m)[3+i]? =some (.int .u8 (h.I i)):=by
 rw[h.get m _ (by omega)]
 unfold HD.at_
 rw[if_neg (by omega),if_pos (by omega),show 3+i-3=i by omega]
theorem HD.get_N (h:HD)(m i:Nat)(a:i<m):(h.cells m)[67+i]? =some (.int .u64 (h.N i)):=by
 rw[h.get m _ (by omega)]
 unfold HD.at_
 rw[if_neg (by omega),if_neg (by omega),if_pos (by omega),show 67+i-67=i by omega]
theorem HD.get_ta (h:HD)(m:Nat):(h.cells m)[67+m]? =some (.int .u32 h.ta):=by
 rw[h.get m _ (by omega)]
 unfold HD.at_
 rw[if_neg (by omega),if_neg (by omega),if_neg (by omega),if_pos rfl]
theorem HD.get_ti (h:HD)(m:Nat):(h.cells m)[68+m]? =some (.int .u32 h.ti):=by
 rw[h.get m _ (by omega)]
 unfold HD.at_
 rw[if_neg (by omega),if_neg (by omega),if_neg (by omega),if_neg (by omega),if_pos rfl]
theorem HD.get_te (h:HD)(m:Nat):(h.cells m)[69+m]? =some (.int .u64 h.te):=by
 rw[h.get m _ (by omega)]
 unfold HD.at_
 rw[if_neg (by omega),if_neg (by omega),if_neg (by omega),if_neg (by omega),if_neg (by omega)]
theorem HD.one (h:HD)(m:Nat):(h.cells m).toArray.all (·.oneCell')=true:=by
 rw[Array.all_eq_true_iff_forall_mem]
 intro x a
 simp only[HD.cells,List.mem_toArray,List.mem_map,List.mem_range]at a
 obtain⟨i,_,rfl⟩:=a
 unfold HD.at_
 repeat' split
 all_goals rfl
structure HD.Ok (h:HD)(m:Nat):Prop where
 cp:0≤h.cp∧h.cp≤4294967295
 ic:0≤h.ic∧h.ic≤4294967295
 st: -9223372036854775808≤h.st∧h.st≤9223372036854775807
 I: ∀i,0≤h.I i∧h.I i<256
 N: ∀i,0≤h.N i∧h.N i≤18446744073709551615
 ta:0≤h.ta∧h.ta≤4294967295
 ti:0≤h.ti∧h.ti≤4294967295
 te:0≤h.te∧h.te≤18446744073709551615
def HD.id (h:HD)(k:Nat):List Int:=(List.range 16).map fun i=>h.I (16*k+i)
def HD.ids (h:HD)(k:Nat):List Int:=(List.range (16*k)).map h.I
def HD.nums (h:HD)(k:Nat):List Int:=(List.range k).map h.N
theorem HD.ids_succ (h:HD)(k:Nat):h.ids (k+1)=h.ids k++h.id k:=by
 unfold HD.ids HD.id
 rw[show 16*(k+1)=16*k+16 by omega,List.range_add,List.map_append,List.map_map]
 rfl
theorem HD.ids_len (h:HD)(k:Nat):(h.ids k).length=16*k:=by simp[HD.ids]
theorem HD.id_len (h:HD)(k:Nat):(h.id k).length=16:=by simp[HD.id]
theorem HD.nums_len (h:HD)(k:Nat):(h.nums k).length=k:=by simp[HD.nums]
theorem HD.id_all {h:HD}{m:Nat}(a:h.Ok m)(k:Nat):AllB (h.id k):=fun n hn=>by
 simp only[HD.id,List.mem_map,List.mem_range]at hn
 obtain⟨i,_,rfl⟩:=hn
 exact a.I _
theorem HD.id_at {w:World}{g:Nat}{T:TypeId}{h:HD}{m:Nat}(a:Blk w g (h.cells m) T)(b:h.Ok m)(k:Nat)(c:k<4):Bytes w (some ⟨g,3+16*k,none⟩) (h.id k):=by
 refine⟨HD.id_all b k,fun i hi=>⟨g,3+16*k,rfl,a.lt,?_⟩⟩
 rw[HD.id_len]at hi
 rw[Nat.add_assoc]
 rw[a.cell (h.get_I m (16*k+i) (by omega))]
 unfold HD.id
 simp[hi]
theorem HD.nums_at {w:World}{g:Nat}{T:TypeId}{h:HD}{m:Nat}(b:Blk w g (h.cells m) T)(i:Nat)(a:i<m):w.cell? ⟨g,67+i,none⟩=some (.int .u64 (h.N i)):=b.cell (h.get_N m i a)
def magicL:List Int:=[76,80,75,83,72,72,82,72]
def HD.front (h:HD):List Int:=magicL++lowB h.cp 4++lowB h.ic 4++lowB (h.st%256) 8
def HD.bytes (h:HD)(m:Nat):List Int:=h.front++h.ids 4++Ob.nums (h.nums m)++lowB h.ta 4++lowB h.ti 4++lowB h.te 8
theorem HD.front_len (h:HD):h.front.length=24:=by unfold HD.front;simp[aAj,magicL]
theorem HD.bytes_len (h:HD)(m:Nat):(h.bytes m).length=104+8*m:=by
 unfold HD.bytes
 simp only[List.length_append,HD.front_len,HD.ids_len,Ob.nums_len,HD.nums_len,aAj]
 omega
theorem aL2:AllB magicL:=fun x hx=>by simp[magicL]at hx;omega
end Ga
namespace Gb
open Ob Ga
theorem wpList_build_as {P:Program}{c:Array Oper}{rest:List Oper}{o:Oper}{a:Act}{w:World}{Q:Exit→Act→World→Prop}(e:o.guard=none)(t:TypeId)(b:Array (Nat×Operand))(f:o.op= .build t b)(cells:Array Value)
 (d:P.built t (b.map fun(i,x)=>(i,a.eval x)).toList=some cells)(h:wpList P c Q rest (a.put o.dst (.agg cells)) w):wpList P c Q (o::rest) a w:=
 wpList_build e t b f (by rw[d];rfl) (by rw[d];exact h)
theorem aAb (n:Nat){P:Program}{b:Array Oper}{Q:Exit→Act→World→Prop}{rest:List Oper}{a:Act}{w:World}{e:Op}{d:TypeId}{c:String}{g:Array Edge}{f:Option (Nat×Bool)}
 (h:wpList P b Q (⟨some n,e,d,c,g,f⟩::rest) a w):wpList P b Q (⟨some n,e,d,c,g,f⟩::rest) a w:=h
theorem aAa (x y:Operand){P:Program}{b:Array Oper}{Q:Exit→Act→World→Prop}{rest:List Oper}{a:Act}{w:World}{t d:TypeId}{c:String}{f:Array Edge}{e:Option (Nat×Bool)}
 (h:wpList P b Q (⟨none,.store t x y,d,c,f,e⟩::rest) a w):wpList P b Q (⟨none,.store t x y,d,c,f,e⟩::rest) a w:=h
theorem aIY:(Tryz.prog.info? 39).map (·.size)=some 91:=by kernel_rfl
theorem aEx:(Tryz.prog.info? 99).map (·.size)=some 90:=by kernel_rfl
theorem idInfo:(Tryz.prog.info? 37).map (·.size)=some 16:=by kernel_rfl
def HD.plus (h:HD)(d:Int):HD:={h with N:=fun i=>if i<20 then h.N i else d}
def idc (h:HD)(k:Nat):List Value:=(h.id k).map (Value.int .u8)
theorem aAf (h:HD):(Tryz.prog.info? 39).map (·.size)=some (h.cells 21).toArray.size:=by rw[aIY];simp[HD.len]
theorem aAB {h:HD}:Tryz.zeroCells39.size=(h.cells 21).toArray.size:=by rw[show Tryz.zeroCells39.size=91 by kernel_rfl];simp[HD.len]
attribute [local irreducible] idc HD.cells wpList Code.wp
end Gb
namespace Ma
open Bytes8 LeNum Ga
def put8 (b:List Int)(a:Nat)(v:Int):List Int:=over b a (lowB v 8)
theorem aAp (b:List Int)(a:Nat)(v:Int)(h:a+8≤b.length):(put8 b a v).length=b.length:=aH8 _ _ _ (by rw[aAj];exact h)
structure Kn where
 text:List Int
 at_:Nat
 slot:Nat
 count:Nat
 arrays:List Nat
structure Cf where
 F:Nat→Int
 M:Nat→Int
 S:Nat→Int
 ds:Nat
 fs:Nat
 most:Nat
 keyed:Bool
structure Mk where
 C:Cf
 h:HD
 depth:Nat
 b:List Int
 datas:List Kn
 fields:List Kn
 main:List Nat
def setN (h:HD)(i:Nat)(v:Int):HD:={h with N:=fun j=>if j=i then v else h.N j}
def Mk.object (m:Mk)(l:List Int):Mk:={m with b:=m.b++l,h:=setN (setN m.h 6 m.b.length) 7 (m.h.N 7+1)}
def inSlot (l:List Kn)(slot:Nat):Nat:=(l.filter fun k=>k.slot==slot).length
def lastIn (l:List Kn)(slot:Nat):Nat:=((l.filter fun k=>k.slot==slot).getLast?.map Kn.at_).getD 0
def hung (b:List Int)(l:List Kn)(table a slot:Nat):List Int:=
 put8 (if inSlot l slot=0 then put8 b (table+16*slot) a else put8 b (lastIn l slot+24) a) (table+16*slot+8) a
def roomN (k:Nat):Nat:=if k>6 then 256 else min (4*2^k) 256
def rooms (k:Nat):Nat:=((List.range k).map roomN).foldl (· + ·) 0
theorem aAv (k:Nat):rooms (k+1)=rooms k+roomN k:=by simp[rooms,List.range_succ]
theorem aHZ (l:List Kn)(k:Kn)(slot:Nat):inSlot (l++ [k]) slot=inSlot l slot+if k.slot=slot then 1 else 0:=by
 unfold inSlot
 rw[List.filter_append,List.length_append]
 by_cases h:k.slot=slot
 ·simp[h]
 ·simp[h]
theorem aCm (l:List Kn)(k:Kn)(slot:Nat):lastIn (l++ [k]) slot=if k.slot=slot then k.at_ else lastIn l slot:=by
 unfold lastIn
 rw[List.filter_append]
 by_cases h:k.slot=slot
 ·simp[h]
 ·simp[h]
theorem aDw (l:List Kn)(i:Nat)(h:i<l.length):l.take (i+1)=l.take i++ [l[i]]:=by rw[List.take_succ_eq_append_getElem h]
end Ma
end Go.Proofs.YtlelnfokffflnaaGreat
