/-
  Texts beneath.
-/
import Derived.Test.YteaikbodkgjkdaaGreatQl23
import Derived.Test.YteaikbodkgjkdaaGreatQl25
set_option linter.unusedVariables false
set_option linter.unusedSimpArgs false
set_option maxRecDepth 100000
set_option maxHeartbeats 4000000
open Go.ChangeShapes Go.WideShapes Go.ChangeAt Go.RowKit
namespace Go.Proofs.YteaikbodkgjkdaaGreat
namespace Nt
open Bytes8 Blk8 Own8 OwnE LeNum Ob Ga Gb Gf Gj Gl Gm Go1 Ma Mh Na Nc Ns
theorem aKS (p q:List Int)(v:Int)(n k:Nat)(a:p.length=n):leNum (((p++(lowB v k++q)).drop n).take k)=v%256^k:=by
 subst a
 rw[List.drop_left,←aEE v k]
 congr 1
 have:=List.take_left (l₁:=lowB v k) (l₂:=q)
 rw[aAj]at this
 exact this
theorem aNh (p q l:List Int)(v:Int)(n:Nat)(b:l=p++(lowB v 4++q))(c:p.length=n)(a:0≤v∧v≤4294967295):u4 l n=v:=by
 subst b
 unfold u4
 rw[aKS p q v n 4 c]
 exact Int.emod_eq_of_lt a.1 (by have:=a.2;show v<4294967296;omega)
theorem aQt (p q l:List Int)(v:Int)(n:Nat)(b:l=p++(lowB v 8++q))(c:p.length=n)(a:0≤v∧v≤18446744073709551615):Ob.u8 l n=v:=by
 subst b
 unfold Ob.u8
 rw[aKS p q v n 8 c]
 exact Int.emod_eq_of_lt a.1 (by have:=a.2;show v<18446744073709551616;omega)
structure Says (h k:HD):Prop where
 cp:h.cp=k.cp
 ic:h.ic=k.ic
 st:h.st=k.st
 I: ∀i,i<64→h.I i=k.I i
 N: ∀i,i<21→h.N i=k.N i
 ta:h.ta=k.ta
 ti:h.ti=k.ti
 te:h.te=k.te
theorem aOS (l:List Int):(hdOf l).ta=u4 l 256:=rfl
theorem aOT (l:List Int):(hdOf l).ti=u4 l 260:=rfl
theorem aOU (l:List Int):(hdOf l).te=Ob.u8 l 264:=rfl
theorem aOV (h:HD)(d:h.Ok 21)(k:0≤h.st∧h.st<256)(r:List Int):Says (hdOf (h.bytes 21++r)) h:=by
 have g:(magicL).length=8:=rfl
 have a:=h.front_len
 have c:=h.ids_len 4
 have b:=h.nums_len 21
 refine⟨?_,?_,?_,?_,?_,?_,?_,?_⟩
 ·exact aNh magicL (lowB h.ic 4++lowB (h.st%256) 8++h.ids 4++Ob.nums (h.nums 21)++lowB h.ta 4++lowB h.ti 4++lowB h.te 8++r) _ h.cp 8 (by unfold HD.bytes HD.front;simp only[List.append_assoc]) rfl d.cp
 ·exact aNh (magicL++lowB h.cp 4) (lowB (h.st%256) 8++h.ids 4++Ob.nums (h.nums 21)++lowB h.ta 4++lowB h.ti 4++lowB h.te 8++r) _ h.ic 12 (by unfold HD.bytes HD.front;simp only[List.append_assoc]) (by rw[yA,aAj,g]) d.ic
 ·show(h.bytes 21++r).getD 16 0=h.st
  have e:h.bytes 21++r=(magicL++lowB h.cp 4++lowB h.ic 4)++([h.st%256%256]++((lowB (h.st%256) 8).drop 1++(h.ids 4++(Ob.nums (h.nums 21)++(lowB h.ta 4++(lowB h.ti 4++(lowB h.te 8++r))))))):=by
   have l:lowB (h.st%256) 8=[h.st%256%256]++(lowB (h.st%256) 8).drop 1:=by simp[lowB,List.range_succ]
   unfold HD.bytes HD.front
   rw[l]
   simp only[List.append_assoc,List.drop_left' (show [h.st%256%256].length=1 from rfl)]
  rw[e,yD,List.getElem?_append_right (by simp[aAj,g]),show 16-(magicL++lowB h.cp 4++lowB h.ic 4).length=0 by simp[aAj,g]]
  show h.st%256%256=h.st
  omega
 ·intro i f
  show(h.bytes 21++r).getD (24+i) 0=h.I i
  have e:h.bytes 21++r=h.front++(h.ids 4++(Ob.nums (h.nums 21)++(lowB h.ta 4++(lowB h.ti 4++(lowB h.te 8++r))))):=by unfold HD.bytes;simp only[List.append_assoc]
  rw[e,yD,List.getElem?_append_right (by omega),a,Nat.add_sub_cancel_left,List.getElem?_append_left (by omega)]
  unfold HD.ids
  simp[f]
 ·intro i f
  show Ob.u8 (h.bytes 21++r) (88+8*i)=h.N i
  have e:h.bytes 21++r=(h.front++h.ids 4)++(Ob.nums (h.nums 21)++(lowB h.ta 4++(lowB h.ti 4++(lowB h.te 8++r)))):=by unfold HD.bytes;simp only[List.append_assoc]
  have j:(h.nums 21).getD i 0=h.N i:=by unfold HD.nums;simp[f]
  rw[e,aDo _ _ 88 _ (by rw[yA,a,c]),aD8 _ _ i (by rw[b];exact f) (by rw[j];exact d.N i),j]
 ·refine(aOS _).trans ?_
  exact aNh (h.front++h.ids 4++Ob.nums (h.nums 21)) (lowB h.ti 4++lowB h.te 8++r) _ h.ta 256 (by unfold HD.bytes;simp only[List.append_assoc]) (by rw[yA,yA,a,c,Ob.nums_len,b]) d.ta
 ·refine(aOT _).trans ?_
  exact aNh (h.front++h.ids 4++Ob.nums (h.nums 21)++lowB h.ta 4) (lowB h.te 8++r) _ h.ti 260 (by unfold HD.bytes;simp only[List.append_assoc]) (by rw[yA,yA,yA,a,c,Ob.nums_len,b,aAj]) d.ti
 ·refine(aOU _).trans ?_
  exact aQt (h.front++h.ids 4++Ob.nums (h.nums 21)++lowB h.ta 4++lowB h.ti 4) r _ h.te 264 (by unfold HD.bytes;simp only[List.append_assoc]) (by rw[yA,yA,yA,yA,a,c,Ob.nums_len,b,aAj,aAj]) d.te
theorem aJv (h:HD)(m:Nat)(r:List Int):magicB (h.bytes m++r)=true:=by
 have e:(h.bytes m++r).take 8=magicL:=by
  unfold HD.bytes HD.front
  simp only[List.append_assoc]
  exact List.take_left' rfl
 unfold magicB
 rw[e]
 decide+kernel
theorem Says.fcode {h k:HD}(s:Says h k)(n:Int):fcode h n=fcode k n:=by
 have e:=s.N 0 (by decide)
 have c:=s.N 1 (by decide)
 have a:=s.N 2 (by decide)
 have f:=s.N 3 (by decide)
 have b:=s.N 4 (by decide)
 have d:=s.N 5 (by decide)
 unfold Gm.fcode endV endB
 rw[s.ic,s.st,e,c,a,f,b,d]
def imgH (m:Mk):HD:=HD.plus (Mk.head m 1) (m.depth:Int)
def imgB (m:Mk):List Int:=(imgH m).bytes 21++m.b.drop 272
structure Img (m:Mk):Prop where
 inv:Inv m
 hg:HG m
 len:m.b.length≤32768
theorem Img.lens {m:Mk}(h:Img m):336≤m.b.length∧m.b.length%8=0∧m.b.length≤32768:=by
 have a:=h.inv.len
 have e:=h.inv.ds
 have d:=h.inv.fs
 have f:=h.inv.l8
 have c:=h.len
 omega
theorem aOe (m:Mk)(i:Nat):(Mk.head m 1).N i=if i=1 then(m.b.length:Int)-272 else m.h.N i:=rfl
theorem aHw {m:Mk}(h:Img m):(Mk.head m 1).Ok 20:=by
 obtain⟨t,u,x⟩:=h.lens
 refine⟨by show 0≤m.h.cp∧m.h.cp≤_;rw[h.hg.cp];decide,by show 0≤m.h.ic∧m.h.ic≤_;rcases h.hg.ic with e|e<;>rw[e]<;>decide,by show -9223372036854775808≤(1:Int)∧(1:Int)≤_;decide,h.hg.I,fun i=>?_,h.hg.ta,h.hg.ti,h.hg.te⟩
 rw[aOe]
 by_cases b:i=1
 ·rw[if_pos b];omega
 rw[if_neg b]
 by_cases c:i=1∨i=6∨(9≤i∧i≤14)∨i=17∨20≤i
 ·exact h.hg.nb i c
 ·obtain⟨s,f,_,a⟩:=h.inv.mn
  have v:=h.inv.n7
  have j:=h.inv.n15
  have n:=h.inv.n16
  have l:=h.inv.n18
  have d:=h.inv.n19
  have q:=h.hg.n0
  have p:=h.inv.n2
  have r:=h.hg.n3
  have k:=h.inv.n4
  have w:=h.hg.n5
  have o:=h.inv.ds
  have hs:=h.inv.fs
  unfold Mk.tf at k
  have g:i=0∨i=2∨i=3∨i=4∨i=5∨i=7∨i=8∨i=15∨i=16∨i=18∨i=19:=by omega
  rcases g with rfl|rfl|rfl|rfl|rfl|rfl|rfl|rfl|rfl|rfl|rfl
  all_goals omega
theorem aOW {m:Mk}(h:Img m):(imgH m).Ok 21:=by
 have k:=aHw h
 have a:=h.inv.dep
 have b:=h.len
 refine⟨k.cp,k.ic,k.st,k.I,fun i=>?_,k.ta,k.ti,k.te⟩
 show 0≤(if i<20 then(Mk.head m 1).N i else(m.depth:Int))∧(if i<20 then(Mk.head m 1).N i else(m.depth:Int))≤_
 split
 ·exact k.N i
 ·omega
theorem aCL (m:Mk)(i:Nat)(a:i<20):(imgH m).N i=if i=1 then(m.b.length:Int)-272 else m.h.N i:=by
 show(if i<20 then(Mk.head m 1).N i else(m.depth:Int))=_
 rw[if_pos a,aOe]
theorem aOX {m:Mk}(h:Img m):endV (imgH m)=(m.b.length:Int)∧endB (imgH m)=true:=by
 obtain⟨d,e,f⟩:=h.lens
 have a:=(aCL m 0 (by decide)).trans (if_neg (by decide))
 have c:=(aCL m 1 (by decide)).trans (if_pos rfl)
 rw[h.hg.n0]at a
 unfold endV endB
 rw[a,c]
 constructor
 ·split<;>omega
 ·simp;omega
theorem aKT {m:Mk}(h:Img m)(n:Int)(u:(m.b.length:Int)≤n):fcode (imgH m) n=0:=by
 obtain⟨v,w,x⟩:=h.lens
 obtain⟨q,t⟩:=aOX h
 have p:=h.inv.ds
 have r:=h.inv.fs
 have k:=h.inv.len
 have g:=(aCL m 0 (by decide)).trans (if_neg (by decide))
 have s:=(aCL m 1 (by decide)).trans (if_pos rfl)
 have f:=(aCL m 2 (by decide)).trans (if_neg (by decide))
 have i:=(aCL m 3 (by decide)).trans (if_neg (by decide))
 have c:=(aCL m 4 (by decide)).trans (if_neg (by decide))
 have j:=(aCL m 5 (by decide)).trans (if_neg (by decide))
 rw[h.hg.n0]at g
 rw[h.inv.n2]at f
 rw[h.hg.n3]at i
 rw[h.inv.n4]at c
 rw[h.hg.n5]at j
 unfold Mk.tf at c
 unfold fcode
 rw[q,t,g,s,f,i,c,j]
 have a:flB (imgH m).ic=false:=by
  show flB m.h.ic=false
  rcases h.hg.ic with e|e<;>rw[e]<;>decide+kernel
 have d:stB (imgH m).st=true:=rfl
 rw[a,d,if_neg (by decide),if_neg (by decide),if_neg (by omega),if_neg (by simp;omega)]
 have o:tcode ((288:Nat):Int) (16*(m.C.ds:Int)) 272 (m.b.length:Int)=0:=by
  unfold tcode
  rw[if_neg (by omega),if_neg (by omega),if_neg (by omega)]
 have l:tcode ((304+16*m.C.ds:Nat):Int) (16*(m.C.fs:Int)) 272 (m.b.length:Int)=0:=by
  unfold tcode
  rw[if_neg (by omega),if_neg (by omega),if_neg (by omega)]
 rw[o,l]
 simp
end Nt
namespace Nq
open Bytes8 Blk8 Own8 OwnE Rows2 Ob Ga Ma Kf Mb Mc Mf Mg Mi Fb Gb Na Nc Nd Nh Np Numb Seq8
theorem aHx (g:Nat)(a:Option Addr)(len m:Nat)(f:Nat→Int)(k:Nat)(b:Int)(w:World)(F:1≤b)(M:b≤1000000)(h:SeqIn w g a len m f k):
 Calls Tryz.prog 42 #[.pointer (some ⟨g,0,none⟩),.int .i64 b] w fun e w'=> ∃r:Nat,e= .returned (.int .i64 (r:Int))∧(r:Int)<b∧SeqIn w' g a len m f (min (k+1) len)∧KeptB w.heap.size g w w':=by
 obtain⟨D,o,c,R,G⟩:=h
 have l:=yH D
 have Z:=l.out.cell (i:=0) rfl
 have X:=l.out.cell (i:=1) rfl
 have V:=l.out.frozen 1
 by_cases u:k<len
 ·obtain⟨E,q,rfl,L,N,y⟩:=o k u
  have A:=c (by omega) E q rfl
  obtain⟨r,H,C⟩:=aDO (f k) b F
  have s:=yH fun w=>aBV (f k) b r w F (by omega) H.out
  have z: ¬(len:Int)≤(k:Int):=by omega
  have J: ∀v,(w.setCell ⟨g,1,none⟩ v).cell? ⟨E,q+k,none⟩=some (.int .i64 (f k)):=fun v=>by
   rw[←N];exact World.cell?_of_block (Below.heap_setCell _ _ _ _ A)
  have B:=yH o
  have d:=yH c
  have Y:Tryz.prog.follows .mixedOrders=true:=by kernel_rfl
  clear o c D H y
  generalize f k=x at*
  go_enter Tryz.func42,Tryz.ntmps42
  go_wp2_with fail
  go_quiet (fail)
  obtain⟨n,t⟩: ∃x,x=nq:=⟨_,rfl⟩
  rw[←t]
  clear t nq
  go_wp2_with fail
  go_quiet ((go_at_call 36;exact aBZ (s.out _)))
  have I:=yH ((((KeptB.refl w.heap.size g w).drewN n).setCell (Or.inr rfl) (.int .i64 ((k:Int)+1)) (p:=⟨g,1,none⟩)).drewN nq)
  go_wp2
  go_ret
  refine⟨r,rfl,C,⟨?_,aBX B.out I.out d.out,d.out,by omega,G⟩,I.out⟩
  rw[Nat.min_eq_left (by omega)]
  exact((l.out.drewN _).set_ 1 _).drewN _
 ·have z:(len:Int)≤(k:Int):=by omega
  have B:=yH o
  have d:=yH c
  have j:min (k+1) len=k:=by omega
  clear o c D
  go_enter Tryz.func42,Tryz.ntmps42
  go_wp2_with fail
  go_quiet (fail)
  go_wp2
  go_ret
  refine⟨0,rfl,by omega,⟨?_,B.out,d.out,by omega,G⟩,(KeptB.refl _ _ _).drewN _⟩
  rw[j]
  exact l.out.drewN _
structure CfOk (C:Cf):Prop where
 F:IdOk C.F
 M:IdOk C.M
 S:IdOk C.S
 ds:0<C.ds∧C.ds≤64
 fs:0<C.fs∧C.fs≤64
 most:C.most=32768
theorem Cf.one (C:Cf):(Cf.cells C).toArray.all (·.oneCell')=true:=by
 rw[Array.all_eq_true_iff_forall_mem]
 intro x a
 simp only[Cf.cells,List.mem_toArray,List.mem_map,List.mem_range]at a
 obtain⟨i,_,rfl⟩:=a
 unfold Cf.at_
 repeat' split
 all_goals rfl
abbrev zC:Array Value:= #[.int .u8 0,.int .u8 0,.int .u8 0,.int .u8 0,.int .u8 0,.int .u8 0,.int .u8 0,.int .u8 0,.int .u8 0,.int .u8 0,.int .u8 0,.int .u8 0,.int .u8 0,.int .u8 0,.int .u8 0,.int .u8 0,.int .u8 0,.int .u8 0,.int .u8 0,.int .u8 0,.int .u8 0,.int .u8 0,.int .u8 0,.int .u8 0,.int .u8 0,.int .u8 0,.int .u8 0,.int .u8 0,.int .u8 0,.int .u8 0,.int .u8 0,.int .u8 0,.int .u8 0,.int .u8 0,.int .u8 0,.int .u8 0,.int .u8 0,.int .u8 0,.int .u8 0,.int .u8 0,.int .u8 0,.int .u8 0,.int .u8 0,.int .u8 0,.int .u8 0,.int .u8 0,.int .u8 0,.int .u8 0,.int .i64 0,.int .i64 0,.int .i64 0,.bool false]
theorem aIB (C:Cf):zC.size=(Cf.cells C).toArray.size:=by rw[show zC.size=52 from rfl];simp[Cf.len]
theorem aHy (C:Cf):(Tryz.prog.info? 86).map (·.size)=some (Cf.cells C).toArray.size:=by rw[aOd];simp[Cf.len]
theorem aHz {w w':World}{s j:Nat}{a:Option Addr}{len d:Nat}{f:Nat→Int}{k:Nat}(h:SeqIn w j a len d f k)(g:Below s w w')(hs:j<s)(o:0<len→ ∀b c,a=some ⟨b,c,none⟩→b<s):SeqIn w' j a len d f k:=
 ⟨h.1.below g hs,fun i hi=>by
   obtain⟨b,c,e,n,l,m⟩:=h.2.1 i hi
   exact⟨b,c,e,yL n g.size,(World.cell?_of_block (g.block b (o (by omega) b c e))).trans l,m⟩,h.2.2⟩
theorem aC8 (k j len:Nat):min (min (k+j) len+1) len=min (k+(j+1)) len:=by omega
attribute [local irreducible] Mk.cells HD.cells Cf.cells wpList Code.wp
theorem aJw (d:Nat)(a:Option Addr)(len c:Nat)(f:Nat→Int)(k:Nat)(w:World)(h:SeqIn w d a len c f k):
 Calls Tryz.prog 57 #[.pointer (some ⟨d,0,none⟩)] w fun e w'=> ∃C:Cf,e= .returned (.agg (Cf.cells C).toArray)∧CfOk C∧SeqIn w' d a len c f (min (k+6) len)∧KeptB w.heap.size d w w':=by
 obtain⟨s,hs⟩: ∃x,w.heap.size=x:=⟨_,rfl⟩
 have g:d<s:=hs▸h.1.lt
 have Z0:=yH (show(w.alloc (.cells zC 86)).heap[s]? =some (.cells zC 86 (0,0))from hs▸heap_alloc_new w _)
 have X:=yH (show s<(w.alloc (.cells zC 86)).heap.size by simp[hs])
 have Q0:=yH (show SeqIn (w.alloc (.cells zC 86)) d a len c f (min (k+0) len)from by rw[Nat.add_zero,Nat.min_eq_left h.2.2.2.1];exact h.below ((yB _ _).alloc (yR _) _))
 have K0:=yH (show KeptB s d w (w.alloc (.cells zC 86))from(KeptB.refl s d w).alloc (by omega) _)
 have i:=yH fun(b:Int) (h1:1≤b) (h2:b≤1000000) (j:Nat) (W:World) (hW:SeqIn W d a len c f (min (k+j) len))=>aHx d a len c f (min (k+j) len) b W h1 h2 hW
 have Y:=yH fun(n:Int) (W:World)=>aKn n W
 have W9:=yH (show 0<len→ ∀b off,a=some ⟨b,off,none⟩→b<s from fun h0 b off e=>by obtain⟨b',aa,p,h1,_⟩:=h.2.1 0 h0;rw[e]at p;injection p with p;injection p with p;omega)
 clear h
 rw[hs]
 go_enter Tryz.func57,Tryz.ntmps57
 go_upto_region 1 with fail
 rw[hs]at*
 clear hs
 generalize w.alloc (.cells zC 86)=w0 at*
 go_wp2_with(first
  |(go_at_call 42;(with_reducible refine(i.out 5 (by decide) (by decide) 0 _ Q0.out).mono ?_);rintro e w1 ⟨r1,rfl,ae,q1,D⟩;have Q1:=yH (show SeqIn w1 d a len c f (min (k+1) len)from(aC8 k 0 len)▸q1);have K1:=yH (K0.out.trans (D.mono (Nat.le_of_lt X.out)));have Z1:=yH ((D.block s X.out (Nat.ne_of_gt g)).trans Z0.out);have I:=yH (yL X.out D.size);clear q1 D)
  |(go_at_call 64;(with_reducible refine(Y.out (r1:Int) w1).mono ?_);rintro e w2 ⟨B,ai,rfl,l⟩;have Q2:=yH (Q1.out.below l);have K2:=yH (K1.out.trans (KeptB.of_below (l.mono (Nat.le_of_lt I.out))));have Z2:=yH ((l.block s I.out).trans Z1.out);have V:=yH (yL I.out l.size);clear l)
  |(go_at_call 42;(with_reducible refine(i.out 5 (by decide) (by decide) 1 _ Q2.out).mono ?_);rintro e w3 ⟨r2,rfl,ad,q3,y⟩;have Q3:=yH (show SeqIn w3 d a len c f (min (k+2) len)from(aC8 k 1 len)▸q3);have K3:=yH (K2.out.trans (y.mono (Nat.le_of_lt V.out)));have Z3:=yH ((y.block s V.out (Nat.ne_of_gt g)).trans Z2.out);have J:=yH (yL V.out y.size);clear q3 y)
  |(go_at_call 64;(with_reducible refine(Y.out (r2:Int) w3).mono ?_);rintro e w4 ⟨A,ab,rfl,m⟩;have Q4:=yH (Q3.out.below m);have K4:=yH (K3.out.trans (KeptB.of_below (m.mono (Nat.le_of_lt J.out))));have Z4:=yH ((m.block s J.out).trans Z3.out);have H:=yH (yL J.out m.size);clear m)
  |(go_at_call 42;(with_reducible refine(i.out 5 (by decide) (by decide) 2 _ Q4.out).mono ?_);rintro e w5 ⟨r3,rfl,aj,q5,z⟩;have Q5:=yH (show SeqIn w5 d a len c f (min (k+3) len)from(aC8 k 2 len)▸q5);have K5:=yH (K4.out.trans (z.mono (Nat.le_of_lt H.out)));have Z5:=yH ((z.block s H.out (Nat.ne_of_gt g)).trans Z4.out);have L:=yH (yL H.out z.size);clear q5 z)
  |(go_at_call 64;(with_reducible refine(Y.out (r3:Int) w5).mono ?_);rintro e w6 ⟨t,af,rfl,r⟩;have Q6:=yH (Q5.out.below r);have K6:=yH (K5.out.trans (KeptB.of_below (r.mono (Nat.le_of_lt L.out))));have Z6:=yH ((r.block s L.out).trans Z5.out);have M:=yH (yL L.out r.size);clear r)
  |(go_at_call 42;(with_reducible refine(i.out 7 (by decide) (by decide) 3 _ Q6.out).mono ?_);rintro e w7 ⟨o,rfl,ag,q7,F⟩;have Q7:=yH (show SeqIn w7 d a len c f (min (k+4) len)from(aC8 k 3 len)▸q7);have K7:=yH (K6.out.trans (F.mono (Nat.le_of_lt M.out)));have Z7:=yH ((F.block s M.out (Nat.ne_of_gt g)).trans Z6.out);have R:=yH (yL M.out F.size);clear q7 F)
  |(go_at_call 42;(with_reducible refine(i.out 4 (by decide) (by decide) 4 _ Q7.out).mono ?_);rintro e w8 ⟨q,rfl,ac,q8,E⟩;have Q8:=yH (show SeqIn w8 d a len c f (min (k+5) len)from(aC8 k 4 len)▸q8);have K8:=yH (K7.out.trans (E.mono (Nat.le_of_lt R.out)));have Z8:=yH ((E.block s R.out (Nat.ne_of_gt g)).trans Z7.out);have N:=yH (yL R.out E.size);clear q8 E)
  |(go_at_call 42;(with_reducible refine(i.out 2 (by decide) (by decide) 5 _ Q8.out).mono ?_);rintro e w9 ⟨u,rfl,ah,Z,G⟩;have Q9:=yH (show SeqIn w9 d a len c f (min (k+6) len)from(aC8 k 5 len)▸Z);have K9:=yH (K8.out.trans (G.mono (Nat.le_of_lt N.out)));have Z9:=yH ((G.block s N.out (Nat.ne_of_gt g)).trans Z8.out);have s9:=yH (yL N.out G.size);clear Z G)
  |((with_reducible apply aAb 21);refine wpList_build_as rfl 86 _ rfl (Cf.cells ⟨mkId B,mkId A,mkId t,o+1,q+1,32768,((u:Int)==1)⟩).toArray (by kernel_rfl) ?_)
  |((with_reducible apply aAa (.tmp 2) (.tmp 21));refine wpList_store_row rfl 86 (.tmp 2) (.tmp 21) rfl s (Cf.cells ⟨mkId B,mkId A,mkId t,o+1,q+1,32768,((u:Int)==1)⟩).toArray rfl rfl 86 zC Z9.out (aHy _) (aIB _) (Cf.one _) ?_)
  |fail)
 refine bodyPost_ret (v:= .agg (Cf.cells ⟨mkId B,mkId A,mkId t,o+1,q+1,32768,((u:Int)==1)⟩).toArray) (by exact results_cell_row Tryz.results57 _ _ s 86 _ (0,0) _ rfl (setRow_heap _ s _ _ _ (0,0) Z9.out) Tryz.underlying86 rfl (aHy _)) rfl ?_
 have b9:=yH (show Below s w9 (w9.setRow s (Cf.cells ⟨mkId B,mkId A,mkId t,o+1,q+1,32768,((u:Int)==1)⟩).toArray)from below_setRow (yB _ _) (yR _) _)
 refine⟨_,rfl,⟨aCX (by omega),aCX (by omega),aCX (by omega),⟨Nat.succ_pos _,by show o+1≤64;omega⟩,⟨Nat.succ_pos _,by show q+1≤64;omega⟩,rfl⟩,aHz Q9.out b9.out g W9.out,K9.out.trans (KeptB.of_below b9.out)⟩
end Nq
end Go.Proofs.YteaikbodkgjkdaaGreat
