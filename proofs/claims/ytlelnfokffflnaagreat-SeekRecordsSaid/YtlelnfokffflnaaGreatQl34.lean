/-
  Texts beneath the proof.
-/
import Derived.Test.YtlelnfokffflnaaGreatQl33
set_option linter.unusedVariables false
set_option linter.unusedSimpArgs false
set_option maxRecDepth 100000
set_option maxHeartbeats 16000000
open Go.ChangeShapes Go.WideShapes Go.ChangeAt Go.RowKit
namespace Go.Proofs.YtlelnfokffflnaaGreat
namespace Rm
open Bytes8 Blk8 Own8 OwnE OwnA Rows2 Ob Od Ga Gb Ok7 Np Nr Pr8 Fa Dc Rc Rk
open Rd (dcode dz)
def lcode (c:Nat→Int):Nat→Int
 |0=>0
 |k+1=>if lcode c k≠0 then lcode c k else c k
theorem aB5 {c:Nat→Int}: ∀ {k:Nat},(∀i,i<k→c i=0)→lcode c k=0
 |0,_=>rfl
 |k+1,h=>by
  unfold lcode
  rw[aB5 (fun i hi=>h i (by omega)),if_neg (by decide)]
  exact h k (by omega)
theorem aEn {c:Nat→Int}{k:Nat}(h: ∀i,i<k→c i=0)(a:c k≠0): ∀ {n:Nat},k<n→lcode c n=c k
 |0,hn=>absurd hn (Nat.not_lt_zero k)
 |n+1,hn=>by
  unfold lcode
  rcases Nat.lt_or_ge k n with h1|h1
  ·rw[aEn h a h1,if_pos a]
  ·have e:n=k:=by omega
   subst e
   rw[aB5 h,if_neg (by decide)]
theorem aIK {l:List Int}{a:Nat}(h:bcode l a 1 6=0):0<(bpay l a 1 6).length:=by
 unfold bpay
 rw[if_pos h,List.length_drop]
 unfold bcode at h
 by_cases b:code l a≠0
 ·rw[if_pos b]at h;exact absurd h b
 ·rw[if_neg b]at h
  by_cases c:kindL l a≠1
  ·rw[if_pos c]at h;cases h
  ·rw[if_neg c]at h
   by_cases d:(bodyL l a).length≤8*6
   ·rw[if_pos d]at h;cases h
   ·omega
theorem aE1 {h:HD}{l:List Int}{n a:Nat}(c:hcode9 h l n a=0):bcode l a 1 6=0:=by
 unfold hcode9 at c
 by_cases d:dcode h l n a≠0
 ·rw[if_pos d]at c;exact absurd c d
 ·have b:dcode h l n a=0:=by omega
  unfold dcode at b
  by_cases e:h.N 0≤(a:Int)∧a<n
  ·rw[if_pos e]at b;exact b
  ·rw[if_neg e]at b;cases b
def prsL (P:Nat→List Int)(k:Nat):List PR:=(List.range k).map fun i=>(splitN (P i),splitV (P i))
theorem aGG (P:Nat→List Int)(k:Nat):prsL P (k+1)=prsL P k++ [(splitN (P k),splitV (P k))]:=by simp[prsL,List.range_succ]
theorem aIL (P:Nat→List Int)(k:Nat):(prsL P k).length=k:=by simp[prsL]
def icode (h:HD)(l:List Int)(n:Nat)(f g:Nat→Int)(i:Nat):Int:=
 if hcode9 h l n (f i).toNat≠0 then hcode9 h l n (f i).toNat else if bnum l (f i).toNat 1 6 0=g i then splitE (bpay l (f i).toNat 1 6)else 9
theorem OwnE.farE {E:TypeId}{size:Nat}{w:World}{base:Nat}{A:Option Addr}{n c:Nat}{xs:List Value}(h:OwnE E size w base A n c xs){a:Addr}(b:a.block<base)(u:Value):OwnE E size (w.setCell a u) base A n c xs:=
 ⟨by simpa using h.1,ownsRow_setCell_below h.2 b u⟩
structure Row4 where
 b:Nat
 off:Nat
 m:Nat
 c:Nat
def Row4.v (x:Row4):Value:= .slice (some ⟨x.b,x.off,none⟩) x.m x.c
structure PayAt (w:World)(rows:List Row4)(P:Nat→List Int):Prop where
 at_: ∀r (h:r<rows.length),Bytes w (some ⟨rows[r].b,rows[r].off,none⟩) (P r)∧(P r).length=rows[r].m∧rows[r].m≤rows[r].c∧rows[r].c≤maxLen∧rows[r].m≤800000
theorem aBe {w w':World}{A:Option Addr}{l:List Int}(h:Bytes w A l)(hs:w.heap.size≤w'.heap.size)(g: ∀b c,A=some ⟨b,c,none⟩→b<w.heap.size→w'.heap[b]? =w.heap[b]?):Bytes w' A l:=⟨h.1,fun i hi=>by
 obtain⟨b,c,e,d,f⟩:=h.2 i hi
 exact⟨b,c,e,yL d hs,(World.cell?_of_block (a:=⟨b,c+i,none⟩) (g b c e d)).trans f⟩⟩
structure LR (w4 wr:World)(s6:Nat)(s r m:Int)(K:Nat→Int)(P:Nat→List Int)(F:Option Addr)(cF:Nat)(PA:Option Addr)(cP:Nat)(rows:List Row4)(kf kp:Nat):Prop where
 old:Below s6 w4 wr
 rc:Blk wr s6 (recL s r m K (.slice F kf cF)) 70
 fld:OwnP wr (s6+1) F kf cF (prsL P kf)
 own:OwnE 24 1 wr (s6+1) PA kp cP (rows.map Row4.v)
 pay:PayAt wr rows P
 far: ∀x∈rows,s6<x.b∧x.b<wr.heap.size∧ownB F≠some x.b∧ownB PA≠some x.b
 apart: ∀g,ownB F=some g→ownB PA≠some g
section
variable {w4 wr : World} {s6 : Nat} {s r m : Int} {K : Nat → Int} {P : Nat → List Int} {F : Option Addr} {cF : Nat} {PA : Option Addr} {cP : Nat} {rows : List Row4} {kf kp : Nat}
theorem LR.lt (h:LR w4 wr s6 s r m K P F cF PA cP rows kf kp):s6<wr.heap.size:=h.rc.lt
theorem LR.below {w':World}(h:LR w4 wr s6 s r m K P F cF PA cP rows kf kp)(a:Below wr.heap.size wr w'):LR w4 w' s6 s r m K P F cF PA cP rows kf kp:=
 {old:=h.old.trans (a.mono (Nat.le_of_lt h.lt))
  rc:=h.rc.below a h.lt
  fld:=h.fld.kept a (yR _)
  own:=h.own.kept a (yR _)
  pay:=⟨fun r hr=>⟨(h.pay.at_ r hr).1.below a (yR _),(h.pay.at_ r hr).2⟩⟩
  far:=fun x hx=>⟨(h.far x hx).1,yL (h.far x hx).2.1 a.size,(h.far x hx).2.2⟩
  apart:=h.apart}
theorem LR.field {w':World}{c:Option Addr}{a:Nat}(h:LR w4 wr s6 s r m K P F cF PA cP rows kf kp)(z:okP (splitN (P kf),splitV (P kf)))
 (B:OwnE 82 2 w' (s6+1) c (kf+1) a (cellsP (prsL P kf)++ [.string (T (splitN (P kf))),.string (T (splitV (P kf)))]))(j:wr.grownBy w' (ownB F))(w:ownB c=ownB F∨ownB c=some wr.heap.size):
 LR w4 (w'.setCell ⟨s6,19,none⟩ (.slice c (kf+1) a)) s6 s r m K P c a PA cP rows (kf+1) kp:=by
 have n:=h.lt
 have l: ∀g,ownB F=some g→s6+1≤g∧g<wr.heap.size:=OwnE.ltB h.fld.2.2
 have u:ownB F≠some s6:=fun e=>by have:=(l s6 e).1;omega
 have v:Below s6 wr w':=below_grown j (Nat.le_of_lt n) (fun k hk=>by have:=(l k hk).1;omega)
 have y:Blk w' s6 (recL s r m K (.slice F kf cF)) 70:=(j.block s6 n (fun e=>u e.symm)).trans h.rc
 have A: ∀b,b<wr.heap.size→ownB F≠some b→b≠s6→(w'.setCell ⟨s6,19,none⟩ (.slice c (kf+1) a)).heap[b]? =wr.heap[b]? :=fun b i d h2=>(Below.heap_setCell w' ⟨s6,19,none⟩ _ b h2).trans (j.block b i (fun e=>d e.symm))
 have o:wr.heap.size≤(w'.setCell ⟨s6,19,none⟩ (.slice c (kf+1) a)).heap.size:=by simpa using j.size
 have q: ∀b,b<wr.heap.size→ownB F≠some b→ownB c≠some b:=fun b i d h2=>by
  rcases w with e|e
  ·exact d (e▸h2)
  ·rw[e]at h2;injection h2 with h2;omega
 refine {old:=(h.old.trans v).setCell (p:=⟨s6,19,none⟩) (yR _) _,rc:=y.set_ 19 _,fld:=?_,own:=?_,pay:=?_,far:=?_,apart:=?_}
 ·refine⟨?_,by rw[aIL],?_⟩
  ·rw[aGG]
   intro p t
   rcases List.mem_append.1 t with d|d
   ·exact h.fld.1 p d
   ·rw[List.mem_singleton.1 d];exact z
  ·rw[aGG,aBv]
   exact OwnE.farE B (show(⟨s6,19,none⟩:Addr).block<s6+1 from Nat.lt_succ_self _) _
 ·exact OwnE.farE (OwnE.keptG h.own j (fun g f e=>h.apart g e f)) (show(⟨s6,19,none⟩:Addr).block<s6+1 from Nat.lt_succ_self _) _
 ·refine⟨fun r hr=>⟨aBe (h.pay.at_ r hr).1 o (fun b off e i=>?_),(h.pay.at_ r hr).2⟩⟩
  have C:=h.far _ (List.getElem_mem hr)
  injection e with e
  injection e with e1 e2
  subst e1
  exact A _ i C.2.2.1 (by omega)
 ·exact fun x hx=>⟨(h.far x hx).1,yL (h.far x hx).2.1 o,q _ (h.far x hx).2.1 (h.far x hx).2.2.1,(h.far x hx).2.2.2⟩
 ·intro g f t
  have i:=(OwnE.ltB h.own g t).2
  exact q g i (fun e=>h.apart g e t) f
theorem LR.payload {w':World}{f:Option Addr}{u:Nat}(h:LR w4 wr s6 s r m K P F cF PA cP rows kf kp)(x:Row4)(D:rows.length=kp)
 (C:Bytes wr (some ⟨x.b,x.off,none⟩) (P kp)∧(P kp).length=x.m∧x.m≤x.c∧x.c≤maxLen∧x.m≤800000)(a:s6<x.b∧x.b<wr.heap.size∧ownB F≠some x.b∧ownB PA≠some x.b)
 (E:OwnE 24 1 w' (s6+1) f (kp+1) u (rows.map Row4.v++ [x.v]))(i:wr.grownBy w' (ownB PA))(B:ownB f=ownB PA∨ownB f=some wr.heap.size):
 LR w4 w' s6 s r m K P F cF f u (rows++ [x]) kf (kp+1):=by
 have q:=h.lt
 have t: ∀g,ownB PA=some g→s6+1≤g∧g<wr.heap.size:=OwnE.ltB h.own
 have w:ownB PA≠some s6:=fun e=>by have:=(t s6 e).1;omega
 have z:Below s6 wr w':=below_grown i (Nat.le_of_lt q) (fun k hk=>by have:=(t k hk).1;omega)
 have n: ∀b,b<wr.heap.size→ownB PA≠some b→ownB f≠some b:=fun b o d h2=>by
  rcases B with e|e
  ·exact d (e▸h2)
  ·rw[e]at h2;injection h2 with h2;omega
 refine {old:=h.old.trans z,rc:=(i.block s6 q (fun e=>w e.symm)).trans h.rc,fld:=⟨h.fld.1,h.fld.2.1,OwnE.keptG h.fld.2.2 i (fun g j e=>h.apart g j e)⟩,own:=by rw[List.map_append];exact E,pay:=?_,far:=?_,apart:=?_}
 ·refine⟨fun r hr=>?_⟩
  rcases Nat.lt_or_ge r rows.length with d|d
  ·rw[List.getElem_append_left d]
   have l:=h.far _ (List.getElem_mem d)
   refine⟨aBe (h.pay.at_ r d).1 i.size (fun b off e o=>?_),(h.pay.at_ r d).2⟩
   injection e with e
   injection e with p A
   subst p
   exact i.block _ o (fun e=>l.2.2.2 e.symm)
  ·have p:r=kp:=by rw[List.length_append,List.length_singleton]at hr;omega
   subst p
   have A:(rows++ [x])[r]=x:=by rw[List.getElem_append_right d];simp
   rw[A]
   refine⟨aBe C.1 i.size (fun b off e o=>?_),C.2⟩
   injection e with e
   injection e with p A
   subst p
   exact i.block _ o (fun e=>a.2.2.2 e.symm)
 ·intro y G
  rcases List.mem_append.1 G with d|d
  ·have l:=h.far y d
   exact⟨l.1,yL l.2.1 i.size,l.2.2.1,n _ l.2.1 l.2.2.2⟩
  ·rw[List.mem_singleton.1 d]
   exact⟨a.1,yL a.2.1 i.size,a.2.2.1,n _ a.2.1 a.2.2.2⟩
 ·intro g j H
  have o:=(OwnE.ltB h.fld.2.2 g j).2
  exact n g o (h.apart g j) H
theorem LR.inRows (h:LR w4 wr s6 s r m K P F cF PA cP rows kf kp)(f:rows.length=kp): ∃(A:Nat→Option Addr) (L C:Nat→Nat),InRows wr PA kp A L C P∧ ∀r,r<kp→L r≤800000:=by
 refine⟨fun r=>(rows[r]?).bind fun x=>some ⟨x.b,x.off,none⟩,fun r=>((rows[r]?).map Row4.m).getD 0,fun r=>((rows[r]?).map Row4.c).getD 0,fun r hr=>?_,fun r hr=>?_⟩
 ·have a:r<rows.length:=by omega
  obtain⟨o,p,l,t,q⟩:=h.pay.at_ r a
  have j:(rows.map Row4.v)[r]? =some rows[r].v:=by rw[List.getElem?_map,List.getElem?_eq_getElem a];rfl
  obtain⟨g,e,n,d,k⟩:=h.own.cell (i:=r) (by rw[List.length_map];exact a)
  refine⟨g,0,e,d,?_,?_,?_,?_,?_⟩
  ·rw[Nat.zero_add,k,j]
   simp only[List.getElem?_eq_getElem a,Option.bind_some,Option.map_some,Option.getD_some]
   rfl
  all_goals (simp only[List.getElem?_eq_getElem a,Option.bind_some,Option.map_some,Option.getD_some];assumption)
 ·have a:r<rows.length:=by omega
  simp only[List.getElem?_eq_getElem a,Option.map_some,Option.getD_some]
  exact(h.pay.at_ r a).2.2.2.2
end
attribute [local irreducible] wpList Code.wp
theorem aPa (x y:ByteArray)(cd:Int)(a:cd≠0)(w:World):Calls Tryz.prog 207 #[.agg #[.string x,.string y],.int .i64 cd] w fun e w'=>e= .panicked [haltE cd]∧Below w.heap.size w w':=by
 have b:=yH (aBF cd)
 have c:(cd==0)=false:=by simpa using a
 go_enter Tryz.func207,Tryz.ntmps207
 go_wp2_with(first
  |(go_at_call 205;(refine(b.out _).mono ?_);rintro e w1 ⟨rfl,rfl⟩)
  |fail)
 exact⟨rfl,rfl,((Below.refl w.heap.size w).alloc (yR _) _).alloc (by simp) _⟩
theorem aNu (x y:ByteArray)(w:World):Calls Tryz.prog 207 #[.agg #[.string x,.string y],.int .i64 0] w fun e w'=>e= .returned (.agg #[.string x,.string y])∧Below w.heap.size w w':=by
 have a:=yH (aA4 0)
 go_enter Tryz.func207,Tryz.ntmps207
 go_wp2_with(first
  |(go_at_call 205;(refine(a.out _).mono ?_);rintro e w1 ⟨rfl,rfl⟩)
  |fail)
 refine bodyPost_ret (v:= .agg #[.string x,.string y]) (by exact results_cell_row Tryz.results207 _ _ (w.heap.size+1) 82 _ (0,0) _ rfl (heap_alloc2_new w _ _) Tryz.underlying82 rfl (by kernel_rfl)) rfl ?_
 exact⟨rfl,((Below.refl w.heap.size w).alloc (yR _) _).alloc (by simp) _⟩
end Rm
namespace Rn
open Bytes8 Blk8 Own8 OwnE OwnA Rows2 Ob Ga Gb Ok7 Np Nr Sg Pr8 Fa Fsp Dc Ya Rc Rk Rm
open Kf Yc Yp Yd Ye Yg Yh Ri
open Rd (dcode dz)
open Re (ReadD)
abbrev payP (l:List Int)(f:Nat→Int)(i:Nat):List Int:=bpay l (f i).toNat 1 6
def rcodeF (h:HD)(l:List Int)(n:Nat)(ec:Int)(mm:Nat)(fa fh:Nat→Int)(x40:Int):Int:=
 if ec≠0 then ec else if 16<mm then 21 else if lcode (icode h l n fa fh) mm≠0 then lcode (icode h l n fa fh) mm else if x40=((xr (rowsL (payP l fa) mm):Nat):Int)then 0 else 10
def rcode (h:HD)(l:List Int)(n a:Nat):Int:=rcodeF h l n (ecode9 h l n a) (eN l a) (itA (bodyL l a)) (itH (bodyL l a)) (eNum l a 40)
structure RC (rc:Int)(h:HD)(l:List Int)(n:Nat)(ec:Int)(mm:Nat)(fa fh:Nat→Int)(x40:Int):Prop where
 a:ec≠0→rc=ec
 b:ec=0→16<mm→rc=21
 c:ec=0→mm≤16→ ∀k,k<mm→(∀i,i<k→icode h l n fa fh i=0)→icode h l n fa fh k≠0→rc=icode h l n fa fh k
 d:ec=0→mm≤16→(∀i,i<mm→icode h l n fa fh i=0)→x40≠((xr (rowsL (payP l fa) mm):Nat):Int)→rc=10
 e:ec=0→mm≤16→(∀i,i<mm→icode h l n fa fh i=0)→x40=((xr (rowsL (payP l fa) mm):Nat):Int)→rc=0
theorem aLo (h:HD)(l:List Int)(n:Nat)(b:Int)(d:Nat)(c fh:Nat→Int)(a:Int):RC (rcodeF h l n b d c fh a) h l n b d c fh a:=by
 refine⟨fun h1=>?_,fun h1 h2=>?_,fun h1 h2 k hk h3 h4=>?_,fun h1 h2 h3 h4=>?_,fun h1 h2 h3 h4=>?_⟩<;>unfold rcodeF
 ·rw[if_pos h1]
 ·rw[if_neg (by omega),if_pos h2]
 ·rw[if_neg (by omega),if_neg (by omega),aEn h3 h4 hk,if_pos h4]
 ·rw[if_neg (by omega),if_neg (by omega),aB5 h3,if_neg (by decide),if_neg h4]
 ·rw[if_neg (by omega),if_neg (by omega),aB5 h3,if_neg (by decide),if_pos h4]
theorem aDd {h:HD}{l:List Int}{n:Nat}{b fh:Nat→Int}{k a:Nat}(e:b k=(a:Int))(c:hcode9 h l n a≠0):icode h l n b fh k=hcode9 h l n a:=by
 unfold icode
 rw[e,Int.toNat_natCast,if_pos c]
theorem aCk {h:HD}{l:List Int}{n:Nat}{b fh:Nat→Int}{k a:Nat}(e:b k=(a:Int))(d:hcode9 h l n a=0)(c:bnum l a 1 6 0≠fh k):icode h l n b fh k=9:=by
 unfold icode
 rw[e,Int.toNat_natCast,if_neg (by omega),if_neg c]
theorem aBG {h:HD}{l:List Int}{n:Nat}{b fh:Nat→Int}{k a:Nat}(e:b k=(a:Int))(d:hcode9 h l n a=0)(c:bnum l a 1 6 0=fh k):icode h l n b fh k=splitE (bpay l a 1 6):=by
 unfold icode
 rw[e,Int.toNat_natCast,if_neg (by omega),if_pos c]
theorem In2.older {w w':World}{a:Option Addr}{n:Nat}{f g:Nat→Int}(h:In2 w a n f g)(d:Below w.heap.size w w'):In2 w' a n f g:=fun i hi=>by
 obtain⟨b,c,e,j,k,m,l⟩:=h i hi
 exact⟨b,c,e,yL j d.size,(d.cell (p:=⟨b,c+i*2,none⟩) j).trans k,(d.cell (p:=⟨b,c+i*2+1,none⟩) j).trans m,l⟩
theorem aE2 (l:List Int):(splitN l).length≤l.length:=by
 unfold splitN;split
 ·rw[List.length_take];omega
 ·exact Nat.zero_le _
theorem aE3 (l:List Int):(splitV l).length≤l.length:=by
 unfold splitV;split
 ·rw[List.length_drop];omega
 ·exact Nat.zero_le _
theorem aEo {l:List Int}(h:AllB l)(c:l.length≤1000000):okP (splitN l,splitV l):=by
 have b:=aE2 l
 have a:=aE3 l
 exact⟨aJl h,aJm h,by unfold maxLen;show(splitN l).length≤_;omega,by unfold maxLen;show(splitV l).length≤_;omega⟩
theorem LR.start {w4 wr:World}{b:Nat}{s r m:Int}{K:Nat→Int}{P:Nat→List Int}(c:Below b w4 wr)(a:Blk wr b (recL s r m K (.slice none 0 0)) 70):LR w4 wr b s r m K P none 0 none 0 [] 0 0:=
 {old:=c,rc:=a,fld:=OwnP.nil _ _ a.lt,own:=OwnE.nil _ _ a.lt,pay:=⟨fun r a=>absurd a (Nat.not_lt_zero r)⟩,far:=(fun x hx=>by cases hx),apart:=(fun g hg=>by cases hg)}
theorem aEp {w:World}{g:Nat}{T:TypeId}{s r m x:Int}{K:Nat→Int}{A:Option Addr}{n c:Nat}(h:Blk w g (entL s r m K x A n c) T):w.rangeAt g 3 (idJ K):=fun j v hj=>by
 have a:j<16:=(List.getElem?_eq_some_iff.1 hj).1
 refine h.cell (i:=3+j) ?_
 rw[aC7 K j a]at hj
 unfold entL
 rcases j with _|_|_|_|_|_|_|_|_|_|_|_|_|_|_|_|j
 all_goals first|exact hj|omega
theorem aAo (s r m:Int)(K:Nat→Int)(A:Option Addr)(n c:Nat):(recL s r m K (.slice A n c)).toArray.all (·.oneCell')=true:=by simp[Value.oneCell']
theorem ent_cell {w:World}{g:Nat}{T:TypeId}{s r m x:Int}{K:Nat→Int}{A:Option Addr}{n c:Nat}(h:Blk w g (entL s r m K x A n c) T):w.cell? ⟨g,0,none⟩=some (.int .u64 s)∧w.cell? ⟨g,1,none⟩=some (.int .u64 r)∧w.cell? ⟨g,2,none⟩=some (.int .u64 m)∧w.cell? ⟨g,19,none⟩=some (.int .u64 x)∧w.cell? ⟨g,20,none⟩=some (.slice A n c):=
 ⟨h.cell (i:=0) rfl,h.cell (i:=1) rfl,h.cell (i:=2) rfl,h.cell (i:=19) rfl,h.cell (i:=20) rfl⟩
def natOf:Value→Nat
 | .int _ z=>z.toNat
 |_=>0
def ReadR (B:Nat)(h:HD)(l:List Int)(n a:Nat)(e:Ending)(w':World):Prop:=
 (rcode h l n a≠0∧e= .panicked [haltE (rcode h l n a)])∨(rcode h l n a=0∧ ∃F cF,e= .returned (.agg (recL (eNum l a 0) (eNum l a 8) (eNum l a 16) (eK l a) (.slice F (eN l a) cF)).toArray)∧Prs w' F (prsL (payP l (itA (bodyL l a))) (eN l a))∧NewIn B F)
attribute [local irreducible] wpList Code.wp ofS bnum bpay bcode hcode9 icode splitE splitN splitV xr rowsL prsL lcode
theorem aNv {gv:Nat}{h:HD}{A:Option Addr}{n c:Nat}{l:List Int}(a:Nat)(w:World)(v:ViewAt w gv h A n c l)(bc:c≤maxLen)(h8:n≤800000):
 Calls Tryz.prog 165 #[.pointer (some ⟨gv,0,none⟩),.int .u64 (a:Int)] w fun e w'=>Below w.heap.size w w'∧ReadR w.heap.size h l n a e w':=by
 have b1:=yH ((Below.refl w.heap.size w).alloc (yR _) (.cells zR 70))
 have v1:=v.below b1.out
 have HV:=yH (aNt a _ v1 bc)
 have Vw:=yH fun(W:World) (hW:Below w.heap.size w W)=>v.below hW
 have Z1:=yH (heap_alloc_new w (.cells zR 70))
 have s1:=yH (show w.heap.size<(w.alloc (.cells zR 70)).heap.size by simp)
 have bw:l.length≤800000:=by have:=v.len;omega
 unfold ReadR
 have ad:=yH (aLo h l n (ecode9 h l n a) (eN l a) (itA (bodyL l a)) (itH (bodyL l a)) (eNum l a 40))
 have bh:rcode h l n a=rcodeF h l n (ecode9 h l n a) (eN l a) (itA (bodyL l a)) (itH (bodyL l a)) (eNum l a 40):=rfl
 rw[bh]
 clear bh
 generalize rcodeF h l n (ecode9 h l n a) (eN l a) (itA (bodyL l a)) (itH (bodyL l a)) (eNum l a 40)=rc at*
 unfold ReadE at HV
 generalize eNum l a 0=N at*
 generalize eNum l a 8=Y at*
 generalize eNum l a 16=f at*
 generalize eNum l a 40=m at*
 generalize eK l a=J at*
 generalize eN l a=mm at*
 generalize itA (bodyL l a)=fa at*
 generalize ecode9 h l n a=cd at*
 generalize itH (bodyL l a)=fh at*
 clear v v1
 by_cases hz:cd≠0
 ·have j:=ad.out.a hz
  subst j
  go_enter Tryz.func165,Tryz.ntmps165
  go_wp2_with(first
   |(go_at_call 177;(refine HV.out.mono ?_);rintro e w3 ⟨ay,⟨_,rfl⟩|⟨he,_⟩⟩;rotate_left;(exact absurd he hz);have B3:=yH (b1.out.trans (ay.mono b1.out.size));clear ay)
   |fail)
  exact⟨rfl,B3.out,.inl ⟨hz,rfl⟩⟩
 have hz:cd=0:=by omega
 subst hz
 go_enter Tryz.func165,Tryz.ntmps165
 go_upto_region 2 with(first
  |(go_at_call 177;(refine HV.out.mono ?_);rintro e w2 ⟨ax,⟨au,_⟩|⟨_,A2,c2,rfl,ba,br⟩⟩;(exact absurd rfl au);have B2:=yH (b1.out.trans (ax.mono b1.out.size));have bg:=yH ba;have Z2:=yH ((ax.block _ s1.out).trans Z1.out);have aW:=yH (show w.heap.size<w2.heap.size from yL s1.out ax.size);clear ax ba br)
  |((with_reducible apply aAa (.tmp 5) (.tmp 13));refine wpList_store_row rfl 239 (.tmp 5) (.tmp 13) rfl w2.heap.size (entL N Y f J m A2 mm c2).toArray rfl rfl 239 ez (heap_alloc_new w2 _) (by kernel_rfl) rfl (by first|exact aBB _ _ _ _ _ _ _ _|exact aCt) ?_)
  |fail)
 have R3:=yH (show Blk ((w2.alloc (.cells ez 239)).setRow w2.heap.size (entL N Y f J m A2 mm c2).toArray) w2.heap.size (entL N Y f J m A2 mm c2) 239 from setRow_heap _ _ _ _ _ (0,0) (heap_alloc_new w2 _))
 have aj:=yH (show Below w2.heap.size w2 ((w2.alloc (.cells ez 239)).setRow w2.heap.size (entL N Y f J m A2 mm c2).toArray)from below_setRow ((Below.refl _ _).alloc (yR _) _) (yR _) _)
 generalize (w2.alloc (.cells ez 239)).setRow w2.heap.size (entL N Y f J m A2 mm c2).toArray=w3 at*
 have B3:=yH (B2.out.trans (aj.out.mono B2.out.size))
 have bx:=yH (In2.older bg.out aj.out)
 have Z3:=yH ((aj.out.block _ aW.out).trans Z2.out)
 have bO:w.heap.size<w3.heap.size:=yL aW.out aj.out.size
 have bW:w2.heap.size<w3.heap.size:=R3.out.lt
 generalize w2.heap.size=s5 at*
 obtain⟨c0,c1,a4,a3,c20⟩:=ent_cell R3.out
 clear HV B2 bg Z2 aW aj Z1 s1
 by_cases bu:16<mm
 ·have j:=ad.out.b rfl bu
  subst j
  have d:decide ((mm:Int)≤16)=false:=by simp;omega
  have d': ¬((mm:Int)≤16):=by omega
  clear c0 c1 a4 a3
  go_wp2_with(first
   |(go_at_call 205;(refine(aBF 21 _).mono ?_);rintro e w5 ⟨rfl,rfl⟩)
   |fail)
  exact⟨rfl,B3.out,.inl ⟨by decide,rfl⟩⟩
 have d:decide ((mm:Int)≤16)=true:=by simp;omega
 have aZ:=yH (aEp R3.out)
 go_upto_region 5 with(first
  |(go_at_call 205;(refine(aA4 21 _).mono ?_);rintro e w5 ⟨rfl,rfl⟩)
  |((with_reducible apply aAb 26);refine wpList_load_mid rfl 37 (.tmp 25) rfl s5 3 rfl (idJ J) _ aZ.out Tryz.underlying37 rfl (aBl _) ?_)
  |((with_reducible apply aAb 27);refine Yz.wpList_build_as rfl 70 _ rfl (recL N Y f J (.slice none 0 0)).toArray (by kernel_rfl) ?_)
  |((with_reducible apply aAa (.tmp 6) (.tmp 27));refine wpList_store_row rfl 70 (.tmp 6) (.tmp 27) rfl w3.heap.size (recL N Y f J (.slice none 0 0)).toArray rfl rfl 70 zR (heap_alloc_new w3 _) (aAm _ _ _ _ _) rfl (aAo _ _ _ _ _ _ _) ?_)
  |fail)
 have R5:=yH (show Blk ((w3.alloc (.cells zR 70)).setRow w3.heap.size (recL N Y f J (.slice none 0 0)).toArray) w3.heap.size (recL N Y f J (.slice none 0 0)) 70 from setRow_heap _ _ _ _ _ (0,0) (heap_alloc_new w3 _))
 have aN:=yH (show Below w3.heap.size w3 ((w3.alloc (.cells zR 70)).setRow w3.heap.size (recL N Y f J (.slice none 0 0)).toArray)from below_setRow ((Below.refl _ _).alloc (yR _) _) (yR _) _)
 generalize (w3.alloc (.cells zR 70)).setRow w3.heap.size (recL N Y f J (.slice none 0 0)).toArray=w5 at*
 generalize bo:w3.heap.size=z at*
 have L0:=yH (LR.start (P:=payP l fa) aN.out R5.out)
 have E5:=yH (R3.out.below aN.out (by omega))
 have bb:=(ent_cell E5.out).2.2.2.2
 have aq:=yH bo.symm
 clear c0 c1 a4 a3 c20 aZ R5 aN bo
 go_upto_region 6 with fail
 clear bb E5
 go_loopw [7,31] (fun p i wr=> ∃(k:Nat) (F:Option Addr) (cF:Nat) (PA:Option Addr) (cP:Nat) (E:List Row4),p= .slice PA k cP∧i= .int .i64 (k:Int)∧k≤mm∧Hid (LR w3 wr z N Y f J (payP l fa) F cF PA cP E k k)∧Hid (E.length=k)∧Hid (∀i,i<k→icode h l n fa fh i=0)) (fun _ i _=>mm-natOf i)
 case atStart=>exact⟨0,none,0,none,0,[],rfl,rfl,Nat.zero_le _,L0,yH rfl,yH (fun i hi=>absurd hi (Nat.not_lt_zero i))⟩
 case round=>
  obtain⟨k,F,cF,PA,cP,E,rfl,rfl,hk,HL,ar,r⟩:=hrel
  have BW:=yH (show Below w.heap.size w wr from B3.out.trans (HL.out.old.mono (by omega)))
  have ap:=yH (show Below w3.heap.size w3 wr from aq.out▸HL.out.old)
  by_cases aG:k<mm
  ·have d1:decide ((k:Int)<(mm:Int))=true:=by simp;omega
   obtain⟨bI,oI,rfl,bV,a8,bG,bz,bS⟩:=(In2.older bx.out ap.out) k aG
   obtain⟨D,aw⟩: ∃D:Nat,fa k=(D:Int):=⟨(fa k).toNat,by omega⟩
   rw[aw]at a8
   have aS:=yH aw
   have aV:=yH (show payP l fa k=bpay l D 1 6 by unfold payP;rw[aw,Int.toNat_natCast])
   clear aw bz
   generalize bm:fh k=g2 at*
   have bH:=yH bm
   clear bm
   go_upto_region 8 with fail
   have R6:=yH (show Blk (wr.alloc (.cells #[.int .u64 (D:Int),.int .u64 g2] 254)) wr.heap.size [.int .u64 (D:Int),.int .u64 g2] 254 from Blk.new wr _ _)
   have B6:=yH (show Below wr.heap.size wr (wr.alloc (.cells #[.int .u64 (D:Int),.int .u64 g2] 254))from(Below.refl _ _).alloc (yR _) _)
   generalize wr.alloc (.cells #[.int .u64 (D:Int),.int .u64 g2] 254)=w6 at*
   have ag:=yH (BW.out.trans (B6.out.mono BW.out.size))
   have L:=yH (HL.out.below B6.out)
   have bt:wr.heap.size<w6.heap.size:=R6.out.lt
   generalize wr.heap.size=s9 at*
   have k0:=R6.out.cell (i:=0) rfl
   have HH:=yH (aJJ D w6 (Vw.out w6 ag.out) bc h8)
   unfold ReadD at HH
   clear a8 bG BW ap B6
   by_cases hc:hcode9 h l n D=0
   ·rw[hc]at HH
    have a0:=yH (aIK (aE1 hc))
    have aF:=yH fun(e:bnum l D 1 6 0≠fh k)=>aCk (fh:=fh) aS.out hc e
    have aC:=yH fun(e:bnum l D 1 6 0=fh k)=>aBG (fh:=fh) aS.out hc e
    have aA:=yH (show(bpay l D 1 6).length≤800000 from Nat.le_trans (aFH l D 1 6) bw)
    rw[bH.out]at aF aC
    generalize bnum l D 1 6 0=y0 at*
    generalize bnum l D 1 6 1=y1 at*
    generalize bnum l D 1 6 2=y2 at*
    generalize bnum l D 1 6 3=y3 at*
    generalize bnum l D 1 6 4=y4 at*
    generalize bnum l D 1 6 5=y5 at*
    generalize bpay l D 1 6=M at*
    go_upto_region 9 with(first
     |(go_at_call 206;(refine HH.out.mono ?_);rintro e w7 ⟨x,⟨au,_⟩|⟨_,A3,G,H,rfl,bj,az,a6⟩⟩;(exact absurd rfl au);have B7:=yH x;have aT:=yH bj;have aB:=yH a6;clear x bj a6)
     |((with_reducible apply aAa (.tmp 10) (.tmp 38));refine wpList_store_row rfl 283 (.tmp 10) (.tmp 38) rfl w7.heap.size #[.int .u64 y0,.int .u64 y1,.int .u64 y2,.int .u64 y3,.int .u64 y4,.int .u64 y5,.slice A3 G H] rfl rfl 283 dz (heap_alloc_new w7 _) (by kernel_rfl) rfl (by simp[Value.oneCell']) ?_)
     |fail)
    obtain⟨g,C,rfl,ay,_⟩:=aT.out.2 0 (by rw[←az]at*;exact a0.out)
    have R8:=yH (show Blk ((w7.alloc (.cells dz 283)).setRow w7.heap.size #[.int .u64 y0,.int .u64 y1,.int .u64 y2,.int .u64 y3,.int .u64 y4,.int .u64 y5,.slice (some ⟨g,C,none⟩) G H]) w7.heap.size [.int .u64 y0,.int .u64 y1,.int .u64 y2,.int .u64 y3,.int .u64 y4,.int .u64 y5,.slice (some ⟨g,C,none⟩) G H] 283 from setRow_heap _ _ _ _ _ (0,0) (heap_alloc_new w7 _))
    have aE:=yH (show Below w7.heap.size w7 ((w7.alloc (.cells dz 283)).setRow w7.heap.size #[.int .u64 y0,.int .u64 y1,.int .u64 y2,.int .u64 y3,.int .u64 y4,.int .u64 y5,.slice (some ⟨g,C,none⟩) G H])from below_setRow ((Below.refl _ _).alloc (yR _) _) (yR _) _)
    generalize (w7.alloc (.cells dz 283)).setRow w7.heap.size #[.int .u64 y0,.int .u64 y1,.int .u64 y2,.int .u64 y3,.int .u64 y4,.int .u64 y5,.slice (some ⟨g,C,none⟩) G H]=w8 at*
    have av:=yH (show Below w6.heap.size w6 w8 from B7.out.trans (aE.out.mono B7.out.size))
    have aX:=yH (ag.out.trans (av.out.mono ag.out.size))
    have aU:=yH (L.out.below av.out)
    have am:=yH (aT.out.below aE.out (yR _))
    have k1:=(R6.out.below av.out bt).cell (i:=1) rfl
    have j0:=R8.out.cell (i:=0) rfl
    have bN:g<w8.heap.size:=yL ay aE.out.size
    have ai:=yH (show z<g∧ownB F≠some g∧ownB PA≠some g from by
     have h1:=aB.out.2.2.2 g C rfl
     have h2:=L.out.lt
     refine⟨by omega,fun e=>?_,fun e=>?_⟩
     ·have:=(OwnE.ltB L.out.fld.2.2 g e).2;omega
     ·have:=(OwnE.ltB L.out.own g e).2;omega)
    have a7:=yH (show ownB F≠some w7.heap.size∧ownB PA≠some w7.heap.size from⟨fun e=>by have:=(OwnE.ltB (L.out.below B7.out).fld.2.2 _ e).2;omega,fun e=>by have:=(OwnE.ltB (L.out.below B7.out).own _ e).2;omega⟩)
    have bn:=yH (show G≤H∧H≤maxLen from⟨aB.out.2.1,aB.out.2.2.1⟩)
    have bl:z≠w7.heap.size:=by have h1:=L.out.lt;have h2:=B7.out.size;omega
    generalize w7.heap.size=al at*
    clear HH k0 B7 aT aB aE R6 L HL ag av
    by_cases he:y0=g2
    ·have d2:(y0==g2)=true:=by simpa using he
     have HI:=yH (aC.out he)
     clear aF aC
     go_upto_region 10 with(first
      |(go_at_call 205;(refine(aA4 9 _).mono ?_);rintro e wn ⟨rfl,rfl⟩)
      |fail)
     clear d1 d2 k1 j0
     by_cases af:splitE M=0
     ·have bk:icode h l n fa fh k=0:=HI.out.trans af
      have ah:=yH fun(W:World) (hW:Bytes W (some ⟨g,C,none⟩) M)=>aF5 (some ⟨g,C,none⟩) M G H W hW az (by have:=aA.out;omega)
      unfold Splitted at ah
      rw[af]at ah
      have bf:=yH bk
      have bF:=yH (show okP (splitN M,splitV M)from aEo am.out.1 (by have:=aA.out;omega))
      clear HI af bk
      have V:=yH (aU.out.below (Below.refl w8.heap.size w8).drew)
      have aR:=yH (R8.out.drew)
      have bQ:=V.out.rc.cell (i:=19) rfl
      have j6:=aR.out.cell (i:=6) rfl
      have I:=R8.out.lt
      have bM:=aU.out.lt
      have aD:=yH fun(W:World)=>Blk.new W [.string (T (splitN M)),.string (T (splitV M))] 82
      go_cut []from 45 to 56 (fun wx=> ∃(F2:Option Addr) (ab:Nat),Hid (LR w3 wx z N Y f J (payP l fa) F2 ab PA cP E (k+1) k)∧Hid (Bytes wx (some ⟨g,C,none⟩) M)∧Hid (Blk wx al [.int .u64 y0,.int .u64 y1,.int .u64 y2,.int .u64 y3,.int .u64 y4,.int .u64 y5,.slice (some ⟨g,C,none⟩) G H] 283)∧Hid (z<g∧g<wx.heap.size∧ownB F2≠some g∧ownB PA≠some g))
      case first=>
       go_region_law (first
        |(refine aCS aEb (o:=⟨some 54,_,_,_,_,_⟩) rfl (.tmp 46) (.tmp 53) rfl (z+1) F k cF (cellsP (prsL (payP l fa) k)) rfl (q.out.fld.2.2) ⟨w11.heap.size,0,none⟩ 1 1 [.string (T (splitN M)),.string (T (splitV M))] rfl rfl (Blk.news (aD.out w11)) (by intro u hu;simp at hu;rcases hu with rfl|rfl<;>rfl) (by omega) (by omega) (by unfold maxLen;omega) ?_;intro F2 ab w13 aJ y aa;have bC:=yH (LR.field q.out (by rw[aV.out];exact bF.out) (by rw[aV.out];exact aJ) y aa);have aQ:=y.size;have bv:=yH (show ownB F2≠some g from fun e=>by rcases aa with e1|e1;(exact ai.out.2.1 (e1▸e));rw[e1]at e;injection e with e;have:=an.out.size;omega);have a5:=yH (show Bytes (w13.setCell ⟨z,19,none⟩ (.slice F2 (k+1) ab)) (some ⟨g,C,none⟩) M from aBe bq.out (by simpa using aQ) (fun b off e hb=>by injection e with e;injection e with e1 e2;subst e1;exact(Below.heap_setCell w13 ⟨z,19,none⟩ _ _ (Nat.ne_of_gt ai.out.1)).trans (y.block _ hb (fun e=>ai.out.2.1 e.symm))));have RF:=yH (show Blk (w13.setCell ⟨z,19,none⟩ (.slice F2 (k+1) ab)) al [.int .u64 y0,.int .u64 y1,.int .u64 y2,.int .u64 y3,.int .u64 y4,.int .u64 y5,.slice (some ⟨g,C,none⟩) G H] 283 from((Below.heap_setCell w13 ⟨z,19,none⟩ _ _ bl.symm).trans (y.block _ bd.out.lt (fun e=>a7.out.1 e.symm))).trans bd.out);have n19:=(show Blk w13 z _ _ from(y.block z q.out.lt (fun e=>by have:=(OwnE.ltB q.out.fld.2.2 z e.symm).1;omega)).trans q.out.rc).cell (i:=19) rfl;have bZ:=(show Blk w13 z _ _ from(y.block z q.out.lt (fun e=>by have:=(OwnE.ltB q.out.fld.2.2 z e.symm).1;omega)).trans q.out.rc).frozen 19;clear aJ y aa)
        |(go_simp;go_at_call 172;(refine(ah.out _ am.out.drew).mono ?_);rintro e w9 ⟨rfl,ae⟩;have R:=yH ((Below.refl w8.heap.size w8).drew.trans ae);have a1:=yH (V.out.below ae);have bT:=a1.out.rc.cell (i:=19) rfl;have bU:=yH (am.out.below R.out (yR _));have R9:=yH (R8.out.below R.out I);clear ae)
        |(go_simp;go_at_call 207;(refine(aNu _ _ w9).mono ?_);rintro e w11 ⟨rfl,X⟩;have aH:=yH (R.out.trans (X.mono R.out.size));have aL:=yH (a1.out.below X);have bX:=aL.out.rc.cell (i:=19) rfl;have an:=yH (aH.out.alloc aH.out.size (.cells #[.string (T (splitN M)),.string (T (splitV M))] 82));have q:=yH (aL.out.below ((Below.refl _ _).alloc (yR _) (.cells #[.string (T (splitN M)),.string (T (splitV M))] 82)));have bR:=q.out.rc.cell (i:=19) rfl;have bq:=yH (am.out.below an.out (yR _));have bd:=yH (R8.out.below an.out I);clear X))
       all_goals
        go_wp2_with fail
        go_meet
        case rel=>exact⟨F2,ab,bC,a5,RF,yH ⟨ai.out.1,by have h1:=a5.out.2 0 a0.out;obtain⟨b9,o9,e9,h9,_⟩:=h1;injection e9 with e9;injection e9 with e9 _;rw[e9];exact h9,bv.out,ai.out.2.2⟩⟩
      case rest=>
       rename World=>w14
       obtain⟨F2,ab,a2,bi,bA,Z⟩:=hcut
       have b0:=bA.out.cell (i:=6) rfl
       have bY:IntKind.i64.wrap ((k:Int)+1)=((k+1:Nat):Int):=by rw[IntKind.wrap_i64];omega
       have aM:=yH (a2.out.below ((Below.refl _ _).alloc (yR _) (.cells #[.slice (some ⟨g,C,none⟩) G H] 24)))
       have bp:=yH (bi.out.below ((Below.refl _ _).alloc (yR _) (.cells #[.slice (some ⟨g,C,none⟩) G H] 24)) (yR _))
       have aO:w14.heap.size<(w14.alloc (.cells #[.slice (some ⟨g,C,none⟩) G H] 24)).heap.size:=by simp
       go_wp2_with(first
        |(at_builtin;refine aAe Yb.aOo rfl (.tmp 56) (.tmp 59) rfl (z+1) PA k cP (E.map Row4.v) rfl aM.out.own ⟨w14.heap.size,0,none⟩ 1 1 [.slice (some ⟨g,C,none⟩) G H] rfl rfl (Blk.news (Blk.new w14 _ _)) (by intro u hu;simp at hu;rw[hu];rfl) (by omega) (by omega) (by unfold maxLen;omega) ?_;intro bJ bs w16 aI aK ao;have a9:=yH (LR.payload aM.out ⟨g,C,G,H⟩ ar.out (by rw[aV.out];exact⟨bp.out,az,bn.out.1,bn.out.2,show G≤800000 from by have:=aA.out;omega⟩) ⟨Z.out.1,Nat.lt_trans Z.out.2.1 aO,Z.out.2.2⟩ aI aK ao);clear aI aK ao)
        |fail)
       go_roundw
       case rel=>exact⟨k+1,F2,ab,bJ,bs,E++ [⟨g,C,G,H⟩],rfl,rfl,by omega,a9,yH (by rw[List.length_append,ar.out];rfl),yH (fun i hi=>by rcases Nat.lt_or_ge i k with h1|h1;(exact r.out i h1);have e:i=k:=by {omega};subst e;exact bf.out)⟩
       case measure=>simp[natOf];omega
     ·have j:=ad.out.c rfl (by omega) k aG r.out (by rw[HI.out];exact af)
      rw[HI.out]at j
      have s:=yH j
      clear j
      have ah:=yH (aF5 (some ⟨g,C,none⟩) M G H w8.drew am.out.drew az (by have:=aA.out;omega))
      unfold Splitted at ah
      have V:=yH (aU.out.below (Below.refl w8.heap.size w8).drew)
      have aR:=yH (R8.out.drew)
      have I:=R8.out.lt
      have Sd:=yH (show w8.drew.cell? ⟨z,19,none⟩=some (.slice F k cF)∧w8.drew.cell? ⟨al,6,none⟩=some (.slice (some ⟨g,C,none⟩) G H)from⟨V.out.rc.cell (i:=19) rfl,aR.out.cell (i:=6) rfl⟩)
      generalize splitE M=sc at*
      refine wp_region_held_drew (S:=fun W:World=>W.cell? ⟨z,19,none⟩=some (.slice F k cF)∧W.cell? ⟨al,6,none⟩=some (.slice (some ⟨g,C,none⟩) G H)) (by kernel_rfl) (by exact Sd.out) (fun hHeld=>?_)
      refine tq 0 45 rfl (fun W hSw=>by obtain⟨t,x6⟩:=hSw;go_simp;try (with_reducible rfl)) ?_
      try simp only[Act.put,sA,sZ,sS]
      refine tq 1 46 rfl (fun W hSw=>by obtain⟨t,x6⟩:=hSw;go_simp;try (with_reducible rfl)) ?_
      try simp only[Act.put,sA,sZ,sS]
      refine tq 2 47 rfl (fun W hSw=>by obtain⟨t,x6⟩:=hSw;go_simp;try (with_reducible rfl)) ?_
      try simp only[Act.put,sA,sZ,sS]
      refine tq 3 48 rfl (fun W hSw=>by obtain⟨t,x6⟩:=hSw;go_simp;try (with_reducible rfl)) ?_
      try simp only[Act.put,sA,sZ,sS]
      refine rd 4 rfl (fun K hK=>?_)
      go_simp
      ((refine ah.out.mono ?_);rintro e w9 ⟨rfl,ae⟩;have R:=yH ((Below.refl w8.heap.size w8).drew.trans ae);have S9:=yH (show w9.cell? ⟨z,19,none⟩=some (.slice F k cF)∧w9.cell? ⟨al,6,none⟩=some (.slice (some ⟨g,C,none⟩) G H)from⟨(V.out.below ae).rc.cell (i:=19) rfl,(R8.out.below R.out I).cell (i:=6) rfl⟩);clear ae)
      try go_wp2_with fail
      refine hK.out _ _ (by exact S9.out) (fun hHeld=>?_)
      clear hK K
      try simp only[Act.put,sA,sZ,sS]
      refine tq 5 50 rfl (fun W hSw=>by obtain⟨t,x6⟩:=hSw;go_simp;try (with_reducible rfl)) ?_
      try simp only[Act.put,sA,sZ,sS]
      refine tq 6 51 rfl (fun W hSw=>by obtain⟨t,x6⟩:=hSw;go_simp;try (with_reducible rfl)) ?_
      try simp only[Act.put,sA,sZ,sS]
      refine rd 7 rfl (fun K hK=>?_)
      go_simp
      ((refine(aPa _ _ _ af w9).mono ?_);rintro e w11 ⟨rfl,X⟩;exact⟨rfl,aX.out.trans ((R.out.trans (X.mono R.out.size)).mono aX.out.size),.inl ⟨by rw[s.out];exact af,by rw[s.out]⟩⟩)
    ·have d2:(y0==g2)=false:=by simpa using he
     have HI:=yH (aF.out he)
     have j:=ad.out.c rfl (by omega) k aG r.out (by rw[HI.out];decide)
     rw[HI.out]at j
     have s:=yH j
     clear j aF aC
     go_wp2_with(first
      |(go_at_call 205;(refine(aBF 9 _).mono ?_);rintro e wn ⟨rfl,rfl⟩)
      |fail)
     exact⟨rfl,aX.out,.inl ⟨by rw[s.out];decide,by rw[s.out]⟩⟩
   ·have HI:=yH (aDd (fh:=fh) aS.out hc)
    have j:=ad.out.c rfl (by omega) k aG r.out (by rw[HI.out];exact hc)
    rw[HI.out]at j
    have s:=yH j
    clear j
    generalize hcode9 h l n D=bP at*
    go_wp2_with(first
     |(go_at_call 206;(refine HH.out.mono ?_);rintro e w7 ⟨x,⟨_,rfl⟩|⟨au,_⟩⟩;rotate_left;(exact absurd au hc);have B7:=yH x;clear x)
     |fail)
    exact⟨rfl,ag.out.trans (B7.out.mono ag.out.size),.inl ⟨by rw[s.out];exact hc,by rw[s.out]⟩⟩
  ·have bE:k=mm:=by omega
   subst bE
   have d1:decide ((k:Int)<(k:Int))=false:=by simp
   have Er:=yH (R3.out.below ap.out (by have:=aq.out;omega))
   have HX:=yH (show True∧Calls Tryz.prog 208 #[.slice PA k cP] wr.drew fun e w'=>e= .returned (.int .u64 ((xr (rowsL (payP l fa) k):Nat):Int))∧Below wr.drew.heap.size wr.drew w' from by
    obtain⟨Ax,Lx,Cx,bL,bD⟩:=LR.inRows (HL.out.below (Below.refl wr.heap.size wr).drew) ar.out
    exact⟨trivial,aPl PA k cP Ax Lx Cx _ _ bL (by omega) bD⟩)
   have Sd:=yH (show wr.drew.cell? ⟨s5,19,none⟩=some (.int .u64 m)from(ent_cell Er.out.drew).2.2.2.1)
   have bK:=yH fun(e:m≠((xr (rowsL (payP l fa) k):Nat):Int))=>ad.out.d rfl (by omega) r.out e
   have bB:=yH fun(e:m=((xr (rowsL (payP l fa) k):Nat):Int))=>ad.out.e rfl (by omega) r.out e
   have Z0:=yH ((BW.out.trans (Below.refl _ _)).size)
   have Zr:=yH ((ap.out.block w.heap.size (by have:=aq.out;omega)).trans Z3.out)
   generalize ((xr (rowsL (payP l fa) k):Nat):Int)=xx at*
   go_upto_region 13 with fail
   by_cases he:m=xx
   ·have d2:(m==xx)=true:=by simpa using he
    have s:=yH (bB.out he)
    refine wp_region_held_drew (S:=fun W:World=>W.cell? ⟨s5,19,none⟩=some (.int .u64 m)) (by kernel_rfl) (by exact Sd.out) (fun hHeld=>?_)
    refine tq 0 62 rfl (fun W hSw=>by have t:=hSw;go_simp;try (with_reducible rfl)) ?_
    try simp only[Act.put,sA,sZ,sS]
    refine tq 1 63 rfl (fun W hSw=>by have t:=hSw;go_simp;try (with_reducible rfl)) ?_
    try simp only[Act.put,sA,sZ,sS]
    refine tq 2 64 rfl (fun W hSw=>by have t:=hSw;go_simp;try (with_reducible rfl)) ?_
    try simp only[Act.put,sA,sZ,sS]
    refine rd 3 rfl (fun K hK=>?_)
    go_simp
    ((refine(HX.out.2).mono ?_);rintro e w7 ⟨rfl,x⟩;have ac:=yH ((Below.refl wr.heap.size wr).drew.trans x);have S7:=yH (show w7.cell? ⟨s5,19,none⟩=some (.int .u64 m)from(ent_cell (Er.out.below ac.out Er.out.lt)).2.2.2.1);clear x)
    try go_wp2_with fail
    refine hK.out _ _ (by exact S7.out) (fun hHeld=>?_)
    clear hK K
    try simp only[Act.put,sA,sZ,sS]
    refine tq 4 66 rfl (fun W hSw=>by have t:=hSw;go_simp;try (with_reducible rfl)) ?_
    try simp only[Act.put,sA,sZ,sS]
    refine rd 5 rfl (fun K hK=>?_)
    go_simp
    ((refine(aA4 10 _).mono ?_);rintro e wn ⟨rfl,rfl⟩)
    try go_wp2_with fail
    refine hK.out _ _ (by exact S7.out) (fun hHeld=>?_)
    clear hK K
    try simp only[Act.put,sA,sZ,sS]
    refine wpAnyH_done (by kernel_rfl) ?_ _
    have aP:=yH (HL.out.below ac.out)
    have Z7:=yH ((ac.out.block _ (yL (by have:=aq.out;omega) ap.out.size)).trans Zr.out)
    go_wp2_with(first
     |((with_reducible apply aAb 68);refine wpList_load_row rfl 70 (.tmp 6) rfl z rfl 70 (recL N Y f J (.slice F k cF)).toArray (0,0) _ aP.out.rc Tryz.underlying70 rfl (aAm _ _ _ _ _) ?_)
     |((with_reducible apply aAa (.tmp 4) (.tmp 68));refine wpList_store_row rfl 70 (.tmp 4) (.tmp 68) rfl w.heap.size (recL N Y f J (.slice F k cF)).toArray rfl rfl 70 zR Z7.out (aAm _ _ _ _ _) rfl (aAo _ _ _ _ _ _ _) ?_)
     |fail)
    refine bodyPost_ret (v:= .agg (recL N Y f J (.slice F k cF)).toArray) (by exact results_cell_row Tryz.results165 _ _ w.heap.size 70 _ (0,0) _ rfl (setRow_heap _ w.heap.size _ _ _ (0,0) Z7.out) Tryz.underlying70 rfl (aAm _ _ _ _ _)) rfl ?_
    have b5:=below_setRow (B:=w.heap.size) (BW.out.trans (ac.out.mono BW.out.size)) (yR _) (recL N Y f J (.slice F k cF)).toArray
    have aY:NewIn (w.heap.size+1) F:=fun b off e=>by have h1:=(OwnE.ltB aP.out.fld.2.2 b (by rw[e];rfl)).1;have:=aq.out;omega
    exact⟨b5,.inr ⟨s.out,F,cF,rfl,Prs.keptB (aP.out.fld.prs) (by simp) (fun b off e hb=>setRow_other _ w.heap.size b _ (by have h1:=aY b off e;omega)),fun b off e=>by have h1:=aY b off e;omega⟩⟩
   ·have d2:(m==xx)=false:=by simpa using he
    have s:=yH (bK.out he)
    refine wp_region_held_drew (S:=fun W:World=>W.cell? ⟨s5,19,none⟩=some (.int .u64 m)) (by kernel_rfl) (by exact Sd.out) (fun hHeld=>?_)
    refine tq 0 62 rfl (fun W hSw=>by have t:=hSw;go_simp;try (with_reducible rfl)) ?_
    try simp only[Act.put,sA,sZ,sS]
    refine tq 1 63 rfl (fun W hSw=>by have t:=hSw;go_simp;try (with_reducible rfl)) ?_
    try simp only[Act.put,sA,sZ,sS]
    refine tq 2 64 rfl (fun W hSw=>by have t:=hSw;go_simp;try (with_reducible rfl)) ?_
    try simp only[Act.put,sA,sZ,sS]
    refine rd 3 rfl (fun K hK=>?_)
    go_simp
    ((refine(HX.out.2).mono ?_);rintro e w7 ⟨rfl,x⟩;have ac:=yH ((Below.refl wr.heap.size wr).drew.trans x);have S7:=yH (show w7.cell? ⟨s5,19,none⟩=some (.int .u64 m)from(ent_cell (Er.out.below ac.out Er.out.lt)).2.2.2.1);clear x)
    try go_wp2_with fail
    refine hK.out _ _ (by exact S7.out) (fun hHeld=>?_)
    clear hK K
    try simp only[Act.put,sA,sZ,sS]
    refine tq 4 66 rfl (fun W hSw=>by have t:=hSw;go_simp;try (with_reducible rfl)) ?_
    try simp only[Act.put,sA,sZ,sS]
    refine rd 5 rfl (fun K hK=>?_)
    go_simp
    ((refine(aBF 10 _).mono ?_);rintro e wn ⟨rfl,rfl⟩;exact⟨rfl,BW.out.trans (ac.out.mono BW.out.size),.inl ⟨by rw[s.out];decide,by rw[s.out]⟩⟩)
end Rn
end Go.Proofs.YtlelnfokffflnaaGreat
