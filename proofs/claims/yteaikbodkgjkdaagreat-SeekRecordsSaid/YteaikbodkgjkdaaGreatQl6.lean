/-
  Texts beneath.
-/
import Derived.Deep.RegionHeld3
import Derived.Deep.CutBlock
import Derived.Test.YteaikbodkgjkdaaGreatQl5
set_option linter.unusedVariables false
set_option linter.unusedSimpArgs false
set_option maxRecDepth 100000
set_option maxHeartbeats 4000000
open Go.ChangeShapes Go.WideShapes Go.ChangeAt Go.RowKit
namespace Go.Proofs.YteaikbodkgjkdaaGreat
namespace Yp
open Bytes8 Blk8 Ob
def ecode (l:List Int)(a:Nat)(k:Int)(ah ea:Nat):Int:=
 if code l a≠0 then code l a else if kindL l a≠k then 4 else if(bodyL l a).length<ah+ea∨(bodyL l a).length%ea≠0 then 5 else 0
def risB (f:Nat→Int):Nat→Bool
 |0=>true
 |1=>true
 |n+2=>risB f (n+1)&&decide (f n<f (n+1))
theorem aGT (f:Nat→Int)(n:Nat)(h:0<n):risB f (n+1)=(risB f n&&decide (f (n-1)<f n)):=by
 cases n with
 |zero=>omega
 |succ n=>rfl
theorem aGU {f:Nat→Int}{n m:Nat}(h:risB f n=true)(b:m≤n):risB f m=true:=by
 induction n with
 |zero=>obtain rfl:m=0:=by omega
        exact h
 |succ n ih=>
  rcases Nat.lt_or_ge m (n+1)with a|a
  ·refine ih ?_ (by omega)
   cases n with
   |zero=>rfl
   |succ n=>rw[risB]at h;exact(Bool.and_eq_true_iff.1 h).1
  ·obtain rfl:m=n+1:=by omega
   exact h
theorem aLY {f g:Nat→Int}{n:Nat}(h: ∀i,i<n→f i=g i):risB f n=risB g n:=by
 induction n with
 |zero=>rfl
 |succ n ih=>
  cases n with
  |zero=>rfl
  |succ n=>rw[risB,risB,ih (fun i hi=>h i (by omega)),h n (by omega),h (n+1) (by omega)]
def itA (bd:List Int)(i:Nat):Int:=u8 bd (48+16*i)
def itH (bd:List Int)(i:Nat):Int:=u8 bd (48+16*i+8)
def itN (bd:List Int):Nat:=(bd.length-48)/16
def itK (bd:List Int)(i:Nat):Int:=if i<16 then bd.getD (24+i) 0 else 0
def entC0 (l:List Int)(a:Nat):Int:=
 if ecode l a 3 48 16≠0 then ecode l a 3 48 16 else if u8 (bodyL l a) 0=0 then 13 else if risB (itA (bodyL l a)) (itN (bodyL l a))then 0 else 11
theorem aOp {a:List Int}(h:AllB a):IdOk (itK a):=fun i=>by
 unfold itK
 split
 ·have:=h.at_ (24+i)
  omega
 ·omega
theorem aQx (a:List Int)(h:40≤a.length):idL (itK a)=(a.drop 24).take 16:=by
 apply List.ext_getElem
 ·simp[idL];omega
 ·intro i c d
  have b:i<16:=c
  rw[List.getElem_take,List.getElem_drop]
  have e:itK a i=a[24+i]'(by omega):=by
   unfold itK
   rw[if_pos b,yD,yG (by omega)];rfl
  rw[←e]
  unfold idL
  rcases i with _|_|_|_|_|_|_|_|_|_|_|_|_|_|_|_|i
  all_goals first|rfl|omega
theorem aEw {l:List Int}{a n:Nat}{k:Int}{e d:Nat}(f:l.length=n)(h:ecode l a k e d=0):code l a=0∧kindL l a=k∧e+d≤(bodyL l a).length∧(bodyL l a).length%d=0∧(bodyL l a).length≤n:=by
 unfold ecode at h
 have c:code l a=0:=by
  by_cases c:code l a=0
  ·exact c
  ·rw[if_pos c]at h;exact h
 rw[if_neg (by omega)]at h
 have b:kindL l a=k:=by
  by_cases b:kindL l a=k
  ·exact b
  ·rw[if_pos b]at h;omega
 rw[if_neg (by omega)]at h
 split at h
 ·omega
 ·refine⟨c,b,by omega,by omega,?_⟩
  unfold bodyL
  simp
  omega
theorem aDJ {l:List Int}{a:Nat}(h:AllB l):AllB (bodyL l a):=(h.drop _).take _
def arN (bd:List Int):Nat:=(bd.length-8)/8
def arF (bd:List Int)(i:Nat):Int:=u8 bd (8+8*i)
def taA (bd:List Int)(i:Nat):Int:=u8 bd (16*i)
def taB (bd:List Int)(i:Nat):Int:=u8 bd (16*i+8)
end Yp
namespace Oj
open Bytes8 Blk8 Own8 OwnE Ob Oc Od Oe
theorem aQy {a c e d b f:Int}(m:0≤a∧a≤18446744073709551615)(k:0≤c∧c≤18446744073709551615)(i:0≤e∧e≤18446744073709551615)(n:0≤d∧d≤18446744073709551615)(j:0≤b∧b≤18446744073709551615)(l:0≤f∧f≤18446744073709551615):I64 [a,c,e,d,b,f]:=by
 intro v g
 simp at g
 rcases g with rfl|rfl|rfl|rfl|rfl|rfl<;>assumption
theorem aPm {a b c:Int}(g:0≤a∧a≤18446744073709551615)(f:0≤b∧b≤18446744073709551615)(e:0≤c∧c≤18446744073709551615):I64 [a,b,c]:=by
 intro v d
 simp at d
 rcases d with rfl|rfl|rfl<;>assumption
theorem aGV (l:List Int)(n m:Nat)(w:World)(g:Nat)(i:w.heap.size=g)(d:I64 l)(f:l.length=n)(b:8*n=m)(a:n≤1000):
 Calls Tryz.prog 105 #[.slice (some ⟨g,0,none⟩) n n] (w.alloc (.cells (l.map (Value.int .u64)).toArray 59)) fun e w'=> ∃A c,e= .returned (.slice A m c)∧Own w' w.heap.size A m c (nums l)∧Below w.heap.size w w':=by
 subst i b
 have h:=aEj w.heap.size n n l 59 _ (Blk.new w _ _) d f a
 exact h.mono fun e w' ⟨A,c,h1,h2,h3⟩=>⟨A,c,h1,Own.base h2 (by simp),((yB w.heap.size w).alloc (yR _) _).trans (h3.mono (by simp))⟩
theorem aQc (a f b i d j:Int)(w:World)(g:Nat)(l:w.heap.size=g)(k:I64 [a,f,b,i,d,j]):
 Calls Tryz.prog 105 #[.slice (some ⟨g,0,none⟩) 6 6] (w.alloc (.cells #[.int .u64 a,.int .u64 f,.int .u64 b,.int .u64 i,.int .u64 d,.int .u64 j] 59)) fun e w'=> ∃A c,e= .returned (.slice A 48 c)∧Own w' w.heap.size A 48 c (nums [a,f,b,i,d,j])∧Below w.heap.size w w':=
 aGV [a,f,b,i,d,j] 6 48 w g l k rfl rfl (by decide)
theorem aQd (a b d:Int)(w:World)(g:Nat)(f:w.heap.size=g)(i:I64 [a,b,d]):
 Calls Tryz.prog 105 #[.slice (some ⟨g,0,none⟩) 3 3] (w.alloc (.cells #[.int .u64 a,.int .u64 b,.int .u64 d] 59)) fun e w'=> ∃A c,e= .returned (.slice A 24 c)∧Own w' w.heap.size A 24 c (nums [a,b,d])∧Below w.heap.size w w':=
 aGV [a,b,d] 3 24 w g f i rfl rfl (by decide)
theorem aPn (a f b i d j:Int)(w:World)(g:Nat)(l:w.heap.size=g)(k:I64 [a,f,b,i,d,j]):
 Calls Tryz.prog 105 #[.slice (some ⟨g,0,none⟩) 6 6] (w.alloc (.cells #[.int .u64 a,.int .u64 f,.int .u64 b,.int .u64 i,.int .u64 d,.int .u64 j] 59)).drew fun e w'=> ∃A c,e= .returned (.slice A 48 c)∧Own w' w.heap.size A 48 c (nums [a,f,b,i,d,j])∧Below w.heap.size w w':=
 (aQc a f b i d j w.drew g l k).mono fun e w' ⟨A,c,h1,h2,h3⟩=>⟨A,c,h1,h2,(yB w.heap.size w).drew.trans h3⟩
theorem aPo (a b d:Int)(w:World)(g:Nat)(f:w.heap.size=g)(i:I64 [a,b,d]):
 Calls Tryz.prog 105 #[.slice (some ⟨g,0,none⟩) 3 3] (w.alloc (.cells #[.int .u64 a,.int .u64 b,.int .u64 d] 59)).drew fun e w'=> ∃A c,e= .returned (.slice A 24 c)∧Own w' w.heap.size A 24 c (nums [a,b,d])∧Below w.heap.size w w':=
 (aQd a b d w.drew g f i).mono fun e w' ⟨A,c,h1,h2,h3⟩=>⟨A,c,h1,h2,(yB w.heap.size w).drew.trans h3⟩
abbrev dataV (x0 x1 x2 x3 x4 x5:Int)(A:Option Addr)(n c:Nat):Value:= .agg #[.int .u64 x0,.int .u64 x1,.int .u64 x2,.int .u64 x3,.int .u64 x4,.int .u64 x5,.slice A n c]
abbrev fieldV (x0 x1 x2:Int)(A:Option Addr)(n c:Nat):Value:= .agg #[.int .u64 x0,.int .u64 x1,.int .u64 x2,.slice A n c]
theorem aGW (r q m j s t:Int)(A:Option Addr)(l:List Int)(n f:Nat)(w:World)(L:Bytes w A l)(E:l.length=n)(hn:n≤900000)(R:I64 [r,q,m,j,s,t]):
 Calls Tryz.prog 109 #[dataV r q m j s t A n f] w (Owned (objB 1 (nums [r,q,m,j,s,t]++l)) (16+(48+n)+padN (48+n)) w):=by
 have HN:=yH fun(W:World) (g:Nat) (hg:W.heap.size=g)=>aPn r q m j s t W g hg R
 have HL:=yH E
 have HB:=yH L
 have V:=yH fun(J:Option Addr) (M:Nat) (W:World) (h:Bytes W J (nums [r,q,m,j,s,t]++l))=>aCQ 1 J (nums [r,q,m,j,s,t]++l) (48+n) M W (by decide) h (by rw[yA,nums_len,E];rfl) (by omega)
 unfold Owned at V
 have b0:=yH ((yB w.heap.size w).alloc (yR _) (.cells #[.int .u64 r,.int .u64 q,.int .u64 m,.int .u64 j,.int .u64 s,.int .u64 t,.slice A n f] 201))
 have k:=yH (Blk.new w [.int .u64 r,.int .u64 q,.int .u64 m,.int .u64 j,.int .u64 s,.int .u64 t,.slice A n f] 201)
 have u0:=k.out.drew.cell (i:=0) rfl;have u1:=k.out.drew.cell (i:=1) rfl;have u2:=k.out.drew.cell (i:=2) rfl;have u3:=k.out.drew.cell (i:=3) rfl;have u4:=k.out.drew.cell (i:=4) rfl;have u5:=k.out.drew.cell (i:=5) rfl;have u6:=k.out.drew.cell (i:=6) rfl
 generalize nums [r,q,m,j,s,t]=N at*
 generalize padN (48+n)=p at*
 clear L E R
 go_enter Tryz.func109,Tryz.ntmps109
 go_wp2
 go_region_held3 (fun w'=>w'.cell? ⟨w.heap.size,0,none⟩=some (.int .u64 r)∧w'.cell? ⟨w.heap.size,1,none⟩=some (.int .u64 q)∧w'.cell? ⟨w.heap.size,2,none⟩=some (.int .u64 m)∧w'.cell? ⟨w.heap.size,3,none⟩=some (.int .u64 j)∧w'.cell? ⟨w.heap.size,4,none⟩=some (.int .u64 s)∧w'.cell? ⟨w.heap.size,5,none⟩=some (.int .u64 t)∧w'.cell? ⟨w.heap.size,6,none⟩=some (.slice A n f)) (first|(with_reducible exact⟨u0,u1,u2,u3,u4,u5,u6⟩)|(with_reducible exact⟨q0,q1,q2,q3,q4,q5,q6⟩)|(with_reducible exact⟨s0,s1,s2,s3,X,s5,s6⟩)|(with_reducible exact⟨t0,t1,t2,t3,Y,t5,Z⟩)|go_keep) (first
  |(refine aAg (o:=⟨some 19,_,_,_,_,_⟩) rfl (.tmp 16) (.tmp 18) rfl _ _ 48 _ _ rfl G.out A n f l rfl (HB.out.below (b0.out.trans (B.out.mono b0.out.size)) (yR _)) HL.out (by omega) ?_;intro A3 c3 w3 y c;have H:=yH y;have D:=yH c;have u:=yH (v.out.below c k.out.lt);have s0:=u.out.cell (i:=0) rfl;have s1:=u.out.cell (i:=1) rfl;have s2:=u.out.cell (i:=2) rfl;have s3:=u.out.cell (i:=3) rfl;have X:=u.out.cell (i:=4) rfl;have s5:=u.out.cell (i:=5) rfl;have s6:=u.out.cell (i:=6) rfl;clear y c)
  |(go_at_call 105;(with_reducible refine(HN.out _ _ (by simp)).mono ?_);rintro e w2 ⟨J,M,rfl,C,b⟩;have G:=yH C;have B:=yH b;have v:=yH (k.out.below b k.out.lt);have q0:=v.out.cell (i:=0) rfl;have q1:=v.out.cell (i:=1) rfl;have q2:=v.out.cell (i:=2) rfl;have q3:=v.out.cell (i:=3) rfl;have q4:=v.out.cell (i:=4) rfl;have q5:=v.out.cell (i:=5) rfl;have q6:=v.out.cell (i:=6) rfl;clear C b)
  |(go_at_call 115;(with_reducible refine(V.out _ _ _ H.out.bytes).mono ?_);rintro e w4 ⟨A4,c4,rfl,z,a⟩;have I:=yH z;have F:=yH a;have x:=yH (u.out.below a u.out.lt);have t0:=x.out.cell (i:=0) rfl;have t1:=x.out.cell (i:=1) rfl;have t2:=x.out.cell (i:=2) rfl;have t3:=x.out.cell (i:=3) rfl;have Y:=x.out.cell (i:=4) rfl;have t5:=x.out.cell (i:=5) rfl;have Z:=x.out.cell (i:=6) rfl;clear z a))
 go_wp2
 go_ret
 have d:=(b0.out.trans (B.out.mono b0.out.size)).trans (D.out.mono b0.out.size)
 exact⟨A4,c4,rfl,Own.base I.out d.size,d.trans (F.out.mono d.size)⟩
theorem aFR (j m k:Int)(A:Option Addr)(l:List Int)(n f:Nat)(w:World)(H:Bytes w A l)(D:l.length=n)(hn:n≤900000)(J:I64 [j,m,k]):
 Calls Tryz.prog 142 #[fieldV j m k A n f] w (Owned (objB 2 (nums [j,m,k]++l)) (16+(24+n)+padN (24+n)) w):=by
 have HN:=yH fun(W:World) (g:Nat) (hg:W.heap.size=g)=>aPo j m k W g hg J
 have HL:=yH D
 have X:=yH H
 have L:=yH fun(G:Option Addr) (I:Nat) (W:World) (h:Bytes W G (nums [j,m,k]++l))=>aCQ 2 G (nums [j,m,k]++l) (24+n) I W (by decide) h (by rw[yA,nums_len,D];rfl) (by omega)
 unfold Owned at L
 have b0:=yH ((yB w.heap.size w).alloc (yR _) (.cells #[.int .u64 j,.int .u64 m,.int .u64 k,.slice A n f] 245))
 have q:=yH (Blk.new w [.int .u64 j,.int .u64 m,.int .u64 k,.slice A n f] 245)
 have u0:=q.out.drew.cell (i:=0) rfl;have u1:=q.out.drew.cell (i:=1) rfl;have u2:=q.out.drew.cell (i:=2) rfl;have u3:=q.out.drew.cell (i:=3) rfl
 generalize nums [j,m,k]=N at*
 generalize padN (24+n)=p at*
 clear H D J
 go_enter Tryz.func142,Tryz.ntmps142
 go_wp2
 go_region_held3 (fun w'=>w'.cell? ⟨w.heap.size,0,none⟩=some (.int .u64 j)∧w'.cell? ⟨w.heap.size,1,none⟩=some (.int .u64 m)∧w'.cell? ⟨w.heap.size,2,none⟩=some (.int .u64 k)∧w'.cell? ⟨w.heap.size,3,none⟩=some (.slice A n f)) (first|(with_reducible exact⟨u0,u1,u2,u3⟩)|(with_reducible exact⟨V,Z,q2,q3⟩)|(with_reducible exact⟨s0,s1,Y,s3⟩)|(with_reducible exact⟨t0,t1,M,R⟩)|go_keep) (first
  |(refine aAg (o:=⟨some 13,_,_,_,_,_⟩) rfl (.tmp 10) (.tmp 12) rfl _ _ 24 _ _ rfl B.out A n f l rfl (X.out.below (b0.out.trans (v.out.mono b0.out.size)) (yR _)) HL.out (by omega) ?_;intro A3 c3 w3 s c;have C:=yH s;have z:=yH c;have r:=yH (t.out.below c q.out.lt);have s0:=r.out.cell (i:=0) rfl;have s1:=r.out.cell (i:=1) rfl;have Y:=r.out.cell (i:=2) rfl;have s3:=r.out.cell (i:=3) rfl;clear s c)
  |(go_at_call 105;(with_reducible refine(HN.out _ _ (by simp)).mono ?_);rintro e w2 ⟨G,I,rfl,x,a⟩;have B:=yH x;have v:=yH a;have t:=yH (q.out.below a q.out.lt);have V:=t.out.cell (i:=0) rfl;have Z:=t.out.cell (i:=1) rfl;have q2:=t.out.cell (i:=2) rfl;have q3:=t.out.cell (i:=3) rfl;clear x a)
  |(go_at_call 115;(with_reducible refine(L.out _ _ _ C.out.bytes).mono ?_);rintro e w4 ⟨A4,c4,rfl,u,b⟩;have E:=yH u;have F:=yH b;have y:=yH (r.out.below b r.out.lt);have t0:=y.out.cell (i:=0) rfl;have t1:=y.out.cell (i:=1) rfl;have M:=y.out.cell (i:=2) rfl;have R:=y.out.cell (i:=3) rfl;clear u b))
 go_wp2
 go_ret
 have d:=(b0.out.trans (v.out.mono b0.out.size)).trans (z.out.mono b0.out.size)
 exact⟨A4,c4,rfl,Own.base E.out d.size,d.trans (F.out.mono d.size)⟩
end Oj
namespace Oh
open Bytes8 Blk8 Own8 OwnE Ob Oc Og
theorem aLZ (A:Option Addr)(l:List Int)(n B a:Nat)(w:World)(u:Bytes w A l)(y:l.length=n)(hn:n≤1000000)(ha:a≤18446744073709551615):
 Calls Tryz.prog 189 #[.slice A n B,.int .u64 (a:Int)] w (FrTold (kindL l a) (sizeL l a) (code l a) w):=by
 have b0:Below w.heap.size w (w.alloc (.cells #[.int .i64 0,.int .i64 0,.int .u64 0] 310)):=(yB w.heap.size w).alloc (yR _) _
 have i:=yH b0
 have t:Hid (kindL l a=if code l a=0 then l.getD a 0 else 0):=yH rfl
 have r:Hid (sizeL l a=if code l a=0 then u8 l (a+8)else 0):=yH rfl
 have no: ∀c:Int,c≠0→code l a=c→kindL l a=0∧sizeL l a=0:=fun c h0 h=>⟨t.out.trans (if_neg (by omega)),r.out.trans (if_neg (by omega))⟩
 have HA:=yH u.1
 by_cases h1:a%8≠0
 ·have d:code l a=3:=by unfold code;rw[if_pos h1]
  obtain⟨m,j⟩:=no 3 (by decide) d
  rw[d,m,j]
  have G: ¬(a:Int)%8=0:=by omega
  clear u no t r d m j y h1
  go_enter Tryz.func189,Tryz.ntmps189
  go_wp2
  refine bodyPost_ret (v:= .tuple #[frV 0 0,.int .i64 3]) (by simp[results_cell_tmp Tryz.results189,go_sem,Result.andThen]) rfl ⟨rfl,?_⟩
  (repeat (first|(with_reducible exact i.out)|(with_reducible exact yB _ _)|refine Below.setCell ?_ (by simp) _|refine Below.alloc ?_ (by simp) _|refine Below.drew ?_|refine below_drewN ?_ _))
 have G:(a:Int)%8=0:=by omega
 by_cases h2:n<a+16
 ·have d:code l a=2:=by unfold code;rw[if_neg h1,if_pos (by omega)]
  obtain⟨m,j⟩:=no 2 (by decide) d
  rw[d,m,j]
  by_cases h3:n<a
  ·have h3':(n:Int)<(a:Int):=by omega
   clear u no t r d m j y h1
   go_enter Tryz.func189,Tryz.ntmps189
   go_wp2
   refine bodyPost_ret (v:= .tuple #[frV 0 0,.int .i64 2]) (by simp[results_cell_tmp Tryz.results189,go_sem,Result.andThen]) rfl ⟨rfl,?_⟩
   (repeat (first|(with_reducible exact i.out)|(with_reducible exact yB _ _)|refine Below.setCell ?_ (by simp) _|refine Below.alloc ?_ (by simp) _|refine Below.drew ?_|refine below_drewN ?_ _))
  ·have h3': ¬(n:Int)<(a:Int):=by omega
   have J:(n:Int)-(a:Int)<16:=by omega
   clear u no t r d m j y h1
   go_enter Tryz.func189,Tryz.ntmps189
   go_wp2
   refine bodyPost_ret (v:= .tuple #[frV 0 0,.int .i64 2]) (by simp[results_cell_tmp Tryz.results189,go_sem,Result.andThen]) rfl ⟨rfl,?_⟩
   (repeat (first|(with_reducible exact i.out)|(with_reducible exact yB _ _)|refine Below.setCell ?_ (by simp) _|refine Below.alloc ?_ (by simp) _|refine Below.drew ?_|refine below_drewN ?_ _))
 have x:=yH fun(z:Int) (W:World) (h:Below w.heap.size w W) (hz:z=((a+8:Nat):Int))=>hz▸aIJ A l n B (a+8) W (u.below h (yR _)) y (by omega) (by omega)
 obtain⟨b,F,rfl,M,p⟩:=u.spot (by omega)
 have V:=p a (by omega)
 have N:=p (a+1) (by omega)
 obtain⟨aa,ae⟩:=aCE u.1 (a+8)
 obtain⟨af,ad⟩:=u.1.at_ a
 obtain⟨Z,ab⟩:=u.1.at_ (a+1)
 have g:code l a=if l.getD a 0<1∨7<l.getD a 0 then 4 else if l.getD (a+1) 0≠0 then 7 else if u8 l (a+8)<16 then 5 else if(n:Int)<a+u8 l (a+8)then 2 else 0:=by
  unfold code
  rw[if_neg h1,if_neg (by omega),y]
 generalize u8 l (a+8)=s at*
 generalize l.getD a 0=k at*
 generalize l.getD (a+1) 0=f at*
 have Y:a+16≤n:=by omega
 have ac:(a:Int)<(n:Int):=by omega
 have R:(a:Int)+1<(n:Int):=by omega
 have X: ¬(n:Int)<(a:Int):=by omega
 have L: ¬(n:Int)-(a:Int)<16:=by omega
 clear u p y h1 h2
 by_cases h3:k<1
 ·have d:code l a=4:=by rw[g,if_pos (Or.inl h3)]
  obtain⟨m,j⟩:=no 4 (by decide) d
  rw[d,m,j]
  clear no t r d m j g
  go_enter Tryz.func189,Tryz.ntmps189
  go_wp2_with(go_at_call 159;(with_reducible refine(x.out _ _ i.out (by omega)).mono ?_);rintro e w' ⟨rfl,rfl⟩)
  refine bodyPost_ret (v:= .tuple #[frV 0 0,.int .i64 4]) (by simp[results_cell_tmp Tryz.results189,go_sem,Result.andThen]) rfl ⟨rfl,?_⟩
  (repeat (first|(with_reducible exact i.out)|(with_reducible exact yB _ _)|refine Below.setCell ?_ (by simp) _|refine Below.alloc ?_ (by simp) _|refine Below.drew ?_|refine below_drewN ?_ _))
 by_cases H:7<k
 ·have d:code l a=4:=by rw[g,if_pos (Or.inr H)]
  obtain⟨m,j⟩:=no 4 (by decide) d
  rw[d,m,j]
  clear no t r d m j g
  go_enter Tryz.func189,Tryz.ntmps189
  go_wp2_with(go_at_call 159;(with_reducible refine(x.out _ _ i.out (by omega)).mono ?_);rintro e w' ⟨rfl,rfl⟩)
  refine bodyPost_ret (v:= .tuple #[frV 0 0,.int .i64 4]) (by simp[results_cell_tmp Tryz.results189,go_sem,Result.andThen]) rfl ⟨rfl,?_⟩
  (repeat (first|(with_reducible exact i.out)|(with_reducible exact yB _ _)|refine Below.setCell ?_ (by simp) _|refine Below.alloc ?_ (by simp) _|refine Below.drew ?_|refine below_drewN ?_ _))
 have o: ¬(k<1∨7<k):=by omega
 by_cases h4:f≠0
 ·have d:code l a=7:=by rw[g,if_neg o,if_pos h4]
  obtain⟨m,j⟩:=no 7 (by decide) d
  rw[d,m,j]
  clear o
  clear no t r d m j g
  go_enter Tryz.func189,Tryz.ntmps189
  go_wp2_with(go_at_call 159;(with_reducible refine(x.out _ _ i.out (by omega)).mono ?_);rintro e w' ⟨rfl,rfl⟩)
  refine bodyPost_ret (v:= .tuple #[frV 0 0,.int .i64 7]) (by simp[results_cell_tmp Tryz.results189,go_sem,Result.andThen]) rfl ⟨rfl,?_⟩
  (repeat (first|(with_reducible exact i.out)|(with_reducible exact yB _ _)|refine Below.setCell ?_ (by simp) _|refine Below.alloc ?_ (by simp) _|refine Below.drew ?_|refine below_drewN ?_ _))
 by_cases C:s<16
 ·have d:code l a=5:=by rw[g,if_neg o,if_neg h4,if_pos C]
  obtain⟨m,j⟩:=no 5 (by decide) d
  rw[d,m,j]
  have q:f=0:=by omega
  subst q
  clear o h4
  clear no t r d m j g
  go_enter Tryz.func189,Tryz.ntmps189
  go_wp2_with(go_at_call 159;(with_reducible refine(x.out _ _ i.out (by omega)).mono ?_);rintro e w' ⟨rfl,rfl⟩)
  refine bodyPost_ret (v:= .tuple #[frV 0 0,.int .i64 5]) (by simp[results_cell_tmp Tryz.results189,go_sem,Result.andThen]) rfl ⟨rfl,?_⟩
  (repeat (first|(with_reducible exact i.out)|(with_reducible exact yB _ _)|refine Below.setCell ?_ (by simp) _|refine Below.alloc ?_ (by simp) _|refine Below.drew ?_|refine below_drewN ?_ _))
 by_cases h6:(n:Int)<a+s
 ·have d:code l a=2:=by rw[g,if_neg o,if_neg h4,if_neg C,if_pos h6]
  obtain⟨m,j⟩:=no 2 (by decide) d
  rw[d,m,j]
  have q:f=0:=by omega
  have D:(n:Int)-(a:Int)<s:=by omega
  subst q
  clear o h4 h6
  clear no t r d m j g
  go_enter Tryz.func189,Tryz.ntmps189
  go_wp2_with(go_at_call 159;(with_reducible refine(x.out _ _ i.out (by omega)).mono ?_);rintro e w' ⟨rfl,rfl⟩)
  refine bodyPost_ret (v:= .tuple #[frV 0 0,.int .i64 2]) (by simp[results_cell_tmp Tryz.results189,go_sem,Result.andThen]) rfl ⟨rfl,?_⟩
  (repeat (first|(with_reducible exact i.out)|(with_reducible exact yB _ _)|refine Below.setCell ?_ (by simp) _|refine Below.alloc ?_ (by simp) _|refine Below.drew ?_|refine below_drewN ?_ _))
 ·have d:code l a=0:=by rw[g,if_neg o,if_neg h4,if_neg C,if_neg h6]
  have m:=t.out.trans (if_pos d)
  have j:=r.out.trans (if_pos d)
  rw[d,m,j]
  have q:f=0:=by omega
  have D: ¬(n:Int)-(a:Int)<s:=by omega
  have E:=yH (show IntKind.i64.wrap k=k from IntWalk.i64_in _ (by omega))
  have I:=yH (show IntKind.u64.wrap ((a:Int)+8)=((a+8:Nat):Int)by rw[IntKind.wrap_u64];omega)
  subst q
  clear o h4 h6 no t r d m j g
  go_enter Tryz.func189,Tryz.ntmps189
  go_wp2_with(go_at_call 159;(with_reducible refine(x.out _ _ i.out (by omega)).mono ?_);rintro e w' ⟨rfl,rfl⟩)
  go_region_held3 (fun w'=>w'.cell? ⟨b,F+a,none⟩=some (.int .u8 k)) (go_keep) ((go_at_call 159;(with_reducible refine(x.out _ _ i.out.drew I.out).mono ?_);rintro e w' ⟨rfl,rfl⟩))
  rw[E.out]
  go_wp2
  refine bodyPost_ret (v:= .tuple #[frV k s,.int .i64 0]) (by simp[results_cell_tmp Tryz.results189,go_sem,Result.andThen]) rfl ⟨rfl,?_⟩
  (repeat (first|(with_reducible exact i.out)|(with_reducible exact yB _ _)|refine Below.setCell ?_ (by simp) _|refine Below.alloc ?_ (by simp) _|refine Below.drew ?_|refine below_drewN ?_ _))
end Oh
namespace Oi
open Bytes8 Blk8 Own8 OwnM OwnE Ob Od Og Oh
theorem aPp (w:World)(base g:Nat)(h:base≤w.heap.size)(a:w.heap.size=g):Own (w.alloc (.cells #[] 5)) base (some ⟨g,0,none⟩) 0 0 []:=a▸Own.made w base h
theorem aDh {l:List Int}{a n:Nat}(d:l.length=n)(h:code l a=0): ∃m:Nat,sizeL l a=((16+m:Nat):Int)∧(bodyL l a).length=m∧a+16+m≤n∧bodyL l a=(l.drop (a+16)).take m∧a%8=0:=by
 have b:=aGd h
 have hs:sizeL l a=u8 l (a+8):=by unfold sizeL;rw[if_pos h]
 have c:=body_len h
 refine⟨(sizeL l a).toNat-16,by omega,by omega,by omega,rfl,b.1⟩
def RBodyNew (l:List Int)(a:Nat)(k:Int)(w:World)(e:Ending)(w':World):Prop:=
 ∃B m cb,e= .returned (.tuple #[.slice B m cb,.int .i64 (if code l a≠0 then code l a else if kindL l a≠k then 4 else 0)])∧Below w.heap.size w w'∧(code l a=0→kindL l a=k→Bytes w' B (bodyL l a)∧(bodyL l a).length=m∧m≤cb∧cb≤maxLen∧m≤1000000∧ ∀x,B=some x→w.heap.size≤x.block∧x.spot=none)
theorem aGX (A:Option Addr)(l:List Int)(n c a:Nat)(k:Int)(w:World)(t:Bytes w A l)(v:l.length=n)(X:n≤1000000)(hc:n≤c)(E:c≤maxLen)(Z:a≤18446744073709551615):
 Calls Tryz.prog 160 #[.slice A n c,.int .u64 (a:Int),.int .i64 k] w (RBodyNew l a k w):=by
 have r:=yH (aLZ A l n c a w t v X Z)
 unfold FrTold at r
 unfold RBodyNew
 by_cases u:code l a≠0
 ·rw[if_pos u]
  generalize code l a=cd at*
  generalize kindL l a=N at*
  generalize sizeL l a=s at*
  have H:Hid (cd≠0):=yH u
  clear t v
  go_enter Tryz.func160,Tryz.ntmps160
  go_wp2_with(go_at_call 189;(with_reducible refine r.out.mono ?_);rintro e w2 ⟨rfl,b⟩;have f:=yH b;clear b)
  go_ret2
  exact⟨none,0,0,rfl,f.out.alloc f.out.size _,fun h=>absurd h H.out⟩
 have D:code l a=0:=by omega
 obtain⟨m,hs,o,J,d,_⟩:=aDh v D
 rw[if_neg u]
 have p:sizeL l a=16+(m:Int):=by omega
 rw[D,p]at r
 by_cases h2:kindL l a≠k
 ·rw[if_pos h2]
  have H:=yH h2
  generalize kindL l a=N at*
  clear t v hs p o d u D
  go_enter Tryz.func160,Tryz.ntmps160
  go_wp2_with(go_at_call 189;(with_reducible refine r.out.mono ?_);rintro e w2 ⟨rfl,b⟩;have f:=yH b;clear b)
  go_ret2
  exact⟨none,0,0,rfl,f.out.alloc f.out.size _,fun _ h=>absurd h H.out⟩
 have z:kindL l a=k:=by omega
 rw[if_neg h2]
 rw[z]at r
 have hcut:=aHM A n c (a+16) (a+16+m) ((a:Int)+16) ((a:Int)+(16+(m:Int))) (by omega) (by omega) (by omega) (by omega)
 have B:=yH (Bytes.cut t c (a+16) m (by omega))
 rw[←d]at B
 rw[show a+16+m-(a+16)=m by omega]at hcut
 generalize c-(a+16)=cb at*
 generalize cutA A c (a+16)=C at*
 have y:=yH o
 have L:a+16+m≤1000000:=by omega
 unfold maxLen at E
 clear t v hs p o d u D h2 z
 go_enter Tryz.func160,Tryz.ntmps160
 go_wp2_with(first
  |(go_at_call 189;(with_reducible refine r.out.mono ?_);rintro e w2 ⟨rfl,b⟩;have f:=yH (b.alloc b.size (.cells #[.int .i64 k,.int .i64 0,.int .u64 (16+(m:Int))] 310));clear b)
  |(at_builtin;refine aAd rfl (.tmp 23) (.tmp 31) rfl w.heap.size _ 0 0 [] rfl (aPp _ w.heap.size (w2.heap.size+1) f.out.size (by simp)) C m cb (bodyL l a) rfl (B.out.below (f.out.alloc f.out.size _) (yR _)) y.out (by omega) ?_;intro Y V w3 q i;rw[Nat.zero_add,List.nil_append]at q;rw[Nat.zero_add];have j:=yH q;have F:=yH i;clear q i))
 go_ret2
 refine⟨Y,m,V,rfl,(f.out.alloc f.out.size _).trans F.out,fun _ _=>⟨j.out.bytes,y.out,(aBs j.out).1,(aBs j.out).2,by omega,fun x h=>?_⟩⟩
 subst h
 rcases j.out.2.2.2.2 with⟨G,_⟩|⟨g,I,R,G,M,_⟩
 ·cases G
 ·injection G with e1
  injection e1 with e1
  subst e1
  exact⟨M,rfl⟩
end Oi
namespace Oi
open Bytes8 Blk8 Own8 OwnE Ob Og
def Bodied (l:List Int)(a:Nat)(k:Int)(c:Nat)(w:World)(e:Ending)(w':World):Prop:=
 ∃B m cb,e= .returned (.tuple #[.slice B m cb,.int .i64 (bcode l a k c)])∧Below w.heap.size w w'∧(bcode l a k c=0→Bytes w' B (bodyL l a)∧(bodyL l a).length=m∧m≤cb∧cb≤maxLen∧8*c<m∧m≤1000000)
theorem aJT (A:Option Addr)(l:List Int)(n f a c:Nat)(k:Int)(w:World)(u:Bytes w A l)(x:l.length=n)(J:n≤1000000)(M:n≤f)(t:f≤maxLen)(L:a≤18446744073709551615)(I:c≤1000):
 Calls Tryz.prog 218 #[.slice A n f,.int .u64 (a:Int),.int .i64 k,.int .i64 (c:Int)] w (Bodied l a k c w):=by
 have q:=yH (aIS A l n f a w u x J M t L)
 unfold FrTold at q
 unfold Bodied
 have d:bcode l a k c=if code l a≠0 then code l a else if kindL l a≠k then 4 else if(bodyL l a).length≤8*c then 5 else 0:=rfl
 by_cases v:code l a≠0
 ·rw[if_pos v]at d
  rw[d]
  clear d
  generalize code l a=cd at*
  generalize kindL l a=H at*
  generalize sizeL l a=s at*
  have N:Hid (cd≠0):=yH v
  clear u x
  go_enter Tryz.func218,Tryz.ntmps218
  go_wp2_with(go_at_call 228;(with_reducible refine q.out.mono ?_);rintro e w2 ⟨rfl,b⟩;have i:=yH b;clear b)
  go_ret2
  exact⟨none,0,0,rfl,i.out.alloc i.out.size _,fun h=>absurd h N.out⟩
 have B:code l a=0:=by omega
 obtain⟨m,hs,j,F,g,_⟩:=aDh x B
 rw[if_neg v,j]at d
 have r:sizeL l a=16+(m:Int):=by omega
 rw[B,r]at q
 by_cases h2:kindL l a≠k
 ·rw[if_pos h2]at d
  rw[d]
  generalize kindL l a=H at*
  clear u x d hs r j g v B
  go_enter Tryz.func218,Tryz.ntmps218
  go_wp2_with(go_at_call 228;(with_reducible refine q.out.mono ?_);rintro e w2 ⟨rfl,b⟩;have i:=yH b;clear b)
  go_ret2
  exact⟨none,0,0,rfl,i.out.alloc i.out.size _,fun h=>absurd h (by decide)⟩
 have y:kindL l a=k:=by omega
 rw[if_neg h2]at d
 rw[y]at q
 have hcut:=aHM A n f (a+16) (a+16+m) ((a:Int)+16) ((a:Int)+(16+(m:Int))) (by omega) (by omega) (by omega) (by omega)
 have z:=yH (Bytes.cut u f (a+16) m (by omega))
 rw[←g]at z
 rw[show a+16+m-(a+16)=m by omega]at hcut
 have p:m≤f-(a+16)∧f-(a+16)≤maxLen:=by omega
 generalize f-(a+16)=cb at*
 generalize cutA A f (a+16)=C at*
 have o:=yH p
 have D:=yH j
 have G:a+16+m≤1000000:=by omega
 unfold maxLen at t
 clear u x hs r j g v B h2 y p
 by_cases h3:m≤8*c
 ·rw[if_pos h3]at d
  rw[d]
  have E:(m:Int)≤(c:Int)*8:=by omega
  clear d
  go_enter Tryz.func218,Tryz.ntmps218
  go_wp2_with(go_at_call 228;(with_reducible refine q.out.mono ?_);rintro e w2 ⟨rfl,b⟩;have i:=yH b;clear b)
  go_ret2
  exact⟨none,0,0,rfl,i.out.alloc i.out.size _,fun h=>absurd h (by decide)⟩
 ·rw[if_neg h3]at d
  rw[d]
  have E: ¬(m:Int)≤(c:Int)*8:=by omega
  clear d
  go_enter Tryz.func218,Tryz.ntmps218
  go_wp2_with(go_at_call 228;(with_reducible refine q.out.mono ?_);rintro e w2 ⟨rfl,b⟩;have i:=yH b;clear b)
  go_ret2
  exact⟨C,m,cb,rfl,i.out.alloc i.out.size _,fun _=>⟨z.out.below (i.out.alloc i.out.size _) (yR _),D.out,o.out.1,o.out.2,by omega,by omega⟩⟩
theorem aL0 (A:Option Addr)(l:List Int)(n b a c:Nat)(k z:Int)(w:World)(f:Bytes w A l)(j:l.length=n)(g:n≤1000000)(m:n≤b)(d:b≤maxLen)(i:a≤18446744073709551615)(e:c≤1000)(o:z=(c:Int)):
 Calls Tryz.prog 218 #[.slice A n b,.int .u64 (a:Int),.int .i64 k,.int .i64 z] w (Bodied l a k c w):=by
 subst o;exact aJT A l n b a c k w f j g m d i e
end Oi
namespace Oj
end Oj
namespace Ga
open Bytes8 Blk8 Own8 LeNum Ob
structure HD where
 cp:Int
 ic:Int
 st:Int
 I:Nat→Int
 N:Nat→Int
 ta:Int
 ti:Int
 te:Int
def HD.at_ (h:HD)(m i:Nat):Value:=
 if i<3 then(if i=0 then .int .u32 h.cp else if i=1 then .int .u32 h.ic else .int .i64 h.st)
 else if i<67 then .int .u8 (h.I (i-3))
 else if i<67+m then .int .u64 (h.N (i-67))
 else if i=67+m then .int .u32 h.ta
 else if i=68+m then .int .u32 h.ti
 else .int .u64 h.te
def HD.cells (h:HD)(m:Nat):List Value:=(List.range (70+m)).map (h.at_ m)
theorem HD.len (h:HD)(m:Nat):(h.cells m).length=70+m:=by simp[HD.cells]
theorem HD.get (h:HD)(m i:Nat)(a:i<70+m):(h.cells m)[i]? =some (h.at_ m i):=by simp[HD.cells,a]
theorem HD.get_I (h:HD)(m i:Nat)(a:i<64):(h.cells m)[3+i]? =some (.int .u8 (h.I i)):=by
 rw[h.get m _ (by omega)]
 unfold HD.at_
 rw[if_neg (by omega),if_pos (by omega),show 3+i-3=i by omega]
theorem HD.get_N (h:HD)(m i:Nat)(a:i<m):(h.cells m)[67+i]? =some (.int .u64 (h.N i)):=by
 rw[h.get m _ (by omega)]
 unfold HD.at_
 rw[if_neg (by omega),if_neg (by omega),if_pos (by omega),show 67+i-67=i by omega]
theorem HD.get_ta (h:HD)(m:Nat):(h.cells m)[67+m]? =some (.int .u32 h.ta):=by
 rw[h.get m _ (by omega)]
 unfold HD.at_
 rw[if_neg (by omega),if_neg (by omega),if_neg (by omega),if_pos rfl]
theorem HD.get_ti (h:HD)(m:Nat):(h.cells m)[68+m]? =some (.int .u32 h.ti):=by
 rw[h.get m _ (by omega)]
 unfold HD.at_
 rw[if_neg (by omega),if_neg (by omega),if_neg (by omega),if_neg (by omega),if_pos rfl]
theorem HD.get_te (h:HD)(m:Nat):(h.cells m)[69+m]? =some (.int .u64 h.te):=by
 rw[h.get m _ (by omega)]
 unfold HD.at_
 rw[if_neg (by omega),if_neg (by omega),if_neg (by omega),if_neg (by omega),if_neg (by omega)]
theorem HD.one (h:HD)(m:Nat):(h.cells m).toArray.all (·.oneCell')=true:=by
 rw[Array.all_eq_true_iff_forall_mem]
 intro x a
 simp only[HD.cells,List.mem_toArray,List.mem_map,List.mem_range]at a
 obtain⟨i,_,rfl⟩:=a
 unfold HD.at_
 repeat' split
 all_goals rfl
structure HD.Ok (h:HD)(m:Nat):Prop where
 cp:0≤h.cp∧h.cp≤4294967295
 ic:0≤h.ic∧h.ic≤4294967295
 st: -9223372036854775808≤h.st∧h.st≤9223372036854775807
 I: ∀i,0≤h.I i∧h.I i<256
 N: ∀i,0≤h.N i∧h.N i≤18446744073709551615
 ta:0≤h.ta∧h.ta≤4294967295
 ti:0≤h.ti∧h.ti≤4294967295
 te:0≤h.te∧h.te≤18446744073709551615
def HD.id (h:HD)(k:Nat):List Int:=(List.range 16).map fun i=>h.I (16*k+i)
def HD.ids (h:HD)(k:Nat):List Int:=(List.range (16*k)).map h.I
def HD.nums (h:HD)(k:Nat):List Int:=(List.range k).map h.N
theorem HD.ids_succ (h:HD)(k:Nat):h.ids (k+1)=h.ids k++h.id k:=by
 unfold HD.ids HD.id
 rw[show 16*(k+1)=16*k+16 by omega,List.range_add,List.map_append,List.map_map]
 rfl
theorem HD.ids_len (h:HD)(k:Nat):(h.ids k).length=16*k:=by simp[HD.ids]
theorem HD.id_len (h:HD)(k:Nat):(h.id k).length=16:=by simp[HD.id]
theorem HD.nums_len (h:HD)(k:Nat):(h.nums k).length=k:=by simp[HD.nums]
theorem HD.id_all {h:HD}{m:Nat}(a:h.Ok m)(k:Nat):AllB (h.id k):=fun n hn=>by
 simp only[HD.id,List.mem_map,List.mem_range]at hn
 obtain⟨i,_,rfl⟩:=hn
 exact a.I _
theorem HD.id_at {w:World}{g:Nat}{T:TypeId}{h:HD}{m:Nat}(a:Blk w g (h.cells m) T)(b:h.Ok m)(k:Nat)(c:k<4):Bytes w (some ⟨g,3+16*k,none⟩) (h.id k):=by
 refine⟨HD.id_all b k,fun i hi=>⟨g,3+16*k,rfl,a.lt,?_⟩⟩
 rw[HD.id_len]at hi
 rw[Nat.add_assoc]
 rw[a.cell (h.get_I m (16*k+i) (by omega))]
 unfold HD.id
 simp[hi]
theorem HD.nums_at {w:World}{g:Nat}{T:TypeId}{h:HD}{m:Nat}(a:Blk w g (h.cells m) T)(i:Nat)(b:i<m):w.cell? ⟨g,67+i,none⟩=some (.int .u64 (h.N i)):=a.cell (h.get_N m i b)
def magicL:List Int:=[76,80,75,83,72,72,82,72]
def HD.front (h:HD):List Int:=magicL++lowB h.cp 4++lowB h.ic 4++lowB (h.st%256) 8
def HD.bytes (h:HD)(m:Nat):List Int:=h.front++h.ids 4++Ob.nums (h.nums m)++lowB h.ta 4++lowB h.ti 4++lowB h.te 8
theorem HD.front_len (h:HD):h.front.length=24:=by unfold HD.front;simp[aAj,magicL]
theorem HD.bytes_len (h:HD)(m:Nat):(h.bytes m).length=104+8*m:=by
 unfold HD.bytes
 simp only[yA,HD.front_len,HD.ids_len,Ob.nums_len,HD.nums_len,aAj]
 omega
theorem aL1:AllB magicL:=fun x hx=>by simp[magicL]at hx;omega
end Ga
namespace Gb
open Ob Ga
theorem wpList_build_as {P:Program}{c:Array Oper}{rest:List Oper}{o:Oper}{a:Act}{w:World}{Q:Exit→Act→World→Prop}(f:o.guard=none)(t:TypeId)(b:Array (Nat×Operand))(e:o.op= .build t b)(cells:Array Value)
 (d:P.built t (b.map fun(i,x)=>(i,a.eval x)).toList=some cells)(h:wpList P c Q rest (a.put o.dst (.agg cells)) w):wpList P c Q (o::rest) a w:=
 wpList_build f t b e (by rw[d];rfl) (by rw[d];exact h)
theorem aAb (n:Nat){P:Program}{c:Array Oper}{Q:Exit→Act→World→Prop}{rest:List Oper}{a:Act}{w:World}{d:Op}{g:TypeId}{b:String}{e:Array Edge}{f:Option (Nat×Bool)}
 (h:wpList P c Q (⟨some n,d,g,b,e,f⟩::rest) a w):wpList P c Q (⟨some n,d,g,b,e,f⟩::rest) a w:=h
theorem aAa (x y:Operand){P:Program}{c:Array Oper}{Q:Exit→Act→World→Prop}{rest:List Oper}{a:Act}{w:World}{t f:TypeId}{b:String}{d:Array Edge}{e:Option (Nat×Bool)}
 (h:wpList P c Q (⟨none,.store t x y,f,b,d,e⟩::rest) a w):wpList P c Q (⟨none,.store t x y,f,b,d,e⟩::rest) a w:=h
theorem aIY:(Tryz.prog.info? 165).map (·.size)=some 91:=by kernel_rfl
theorem aEx:(Tryz.prog.info? 123).map (·.size)=some 90:=by kernel_rfl
theorem idInfo:(Tryz.prog.info? 61).map (·.size)=some 16:=by kernel_rfl
def HD.plus (h:HD)(d:Int):HD:={h with N:=fun i=>if i<20 then h.N i else d}
def idc (h:HD)(k:Nat):List Value:=(h.id k).map (Value.int .u8)
theorem aAf (h:HD):(Tryz.prog.info? 165).map (·.size)=some (h.cells 21).toArray.size:=by rw[aIY];simp[HD.len]
theorem aAB {h:HD}:Tryz.zeroCells165.size=(h.cells 21).toArray.size:=by rw[show Tryz.zeroCells165.size=91 by kernel_rfl];simp[HD.len]
attribute [local irreducible] idc HD.cells wpList Code.wp
end Gb
namespace Ma
open Bytes8 LeNum Ga
def put8 (b:List Int)(a:Nat)(v:Int):List Int:=over b a (lowB v 8)
theorem aAp (b:List Int)(a:Nat)(v:Int)(h:a+8≤b.length):(put8 b a v).length=b.length:=aH8 _ _ _ (by rw[aAj];exact h)
structure Kn where
 text:List Int
 at_:Nat
 slot:Nat
 count:Nat
 arrays:List Nat
structure Cf where
 F:Nat→Int
 M:Nat→Int
 S:Nat→Int
 ds:Nat
 fs:Nat
 most:Nat
 keyed:Bool
structure Mk where
 C:Cf
 h:HD
 depth:Nat
 b:List Int
 datas:List Kn
 fields:List Kn
 main:List Nat
def setN (h:HD)(i:Nat)(v:Int):HD:={h with N:=fun j=>if j=i then v else h.N j}
def Mk.object (m:Mk)(l:List Int):Mk:={m with b:=m.b++l,h:=setN (setN m.h 6 m.b.length) 7 (m.h.N 7+1)}
def inSlot (l:List Kn)(slot:Nat):Nat:=(l.filter fun k=>k.slot==slot).length
def lastIn (l:List Kn)(slot:Nat):Nat:=((l.filter fun k=>k.slot==slot).getLast?.map Kn.at_).getD 0
def hung (b:List Int)(l:List Kn)(table a slot:Nat):List Int:=
 put8 (if inSlot l slot=0 then put8 b (table+16*slot) a else put8 b (lastIn l slot+24) a) (table+16*slot+8) a
def roomN (k:Nat):Nat:=if k>6 then 256 else min (4*2^k) 256
def rooms (k:Nat):Nat:=((List.range k).map roomN).foldl (· + ·) 0
theorem aAv (k:Nat):rooms (k+1)=rooms k+roomN k:=by simp[rooms,List.range_succ]
theorem aHW (l:List Kn)(k:Kn)(slot:Nat):inSlot (l++ [k]) slot=inSlot l slot+if k.slot=slot then 1 else 0:=by
 unfold inSlot
 rw[List.filter_append,yA]
 by_cases h:k.slot=slot
 ·simp[h]
 ·simp[h]
theorem aCm (l:List Kn)(k:Kn)(slot:Nat):lastIn (l++ [k]) slot=if k.slot=slot then k.at_ else lastIn l slot:=by
 unfold lastIn
 rw[List.filter_append]
 by_cases h:k.slot=slot
 ·simp[h]
 ·simp[h]
theorem aDw (l:List Kn)(i:Nat)(h:i<l.length):l.take (i+1)=l.take i++ [l[i]]:=by rw[List.take_succ_eq_append_getElem h]
end Ma
end Go.Proofs.YteaikbodkgjkdaaGreat
