/-
  Texts beneath the proof.
-/
import Derived.Test.YtlelnfokffflnaaGreatQl17
set_option linter.unusedVariables false
set_option linter.unusedSimpArgs false
set_option maxRecDepth 100000
set_option maxHeartbeats 2000000
open Go.ChangeShapes Go.WideShapes Go.ChangeAt Go.RowKit
namespace Go.Proofs.YtlelnfokffflnaaGreat
namespace Nb
open Bytes8 Ob Ga Ma Mc Mf Mg Na
theorem aIg (b:List Int)(l:List Kn)(t a slot:Nat)(f:t+16*slot+16≤b.length)(d: ∀k∈l,k.at_+32≤b.length):(hung b l t a slot).length=b.length:=by
 unfold hung
 by_cases h:inSlot l slot=0
 ·rw[if_pos h,aAp _ _ _ (by rw[aAp _ _ _ (by omega)];omega),aAp _ _ _ (by omega)]
 ·rw[if_neg h]
  obtain⟨q,c,e⟩:=Me.aEK h
  have:=d q c
  rw[e,aAp _ _ _ (by rw[aAp _ _ _ (by omega)];omega),aAp _ _ _ (by omega)]
theorem aAM (m:Mk)(l:List Int):(m.object l).b.length=m.b.length+l.length:=by simp[Mk.object]
theorem aBN (h:HD)(i:Nat)(v:Int):(setN h i v).N i=v:=by simp[setN]
theorem aA1 (h:HD)(i j:Nat)(v:Int)(e:j≠i):(setN h i v).N j=h.N j:=by simp[setN,e]
theorem aIh {m:Mk}(h:0<m.C.ds)(s:List Int):Mk.dslot m s<m.C.ds:=by
 unfold Mk.dslot
 have b:=Int.emod_nonneg (Mk.sum m s) (show(m.C.ds:Int)≠0 by omega)
 have c:=Int.emod_lt_of_pos (Mk.sum m s) (show(0:Int)<(m.C.ds:Int)by omega)
 omega
theorem aIi {m:Mk}(h:0<m.C.fs)(s:List Int):Mk.fslot m s<m.C.fs:=by
 unfold Mk.fslot
 have b:=Int.emod_nonneg (Mk.sum m s) (show(m.C.fs:Int)≠0 by omega)
 have c:=Int.emod_lt_of_pos (Mk.sum m s) (show(0:Int)<(m.C.fs:Int)by omega)
 omega
theorem aBY (m:Mk)(s:List Int):(Mk.dobj m s).length=64+s.length+padN s.length∧(64+s.length+padN s.length)%8=0∧padN s.length≤7:=by
 have:=aFs s.length
 have e:padN (48+s.length)=padN s.length:=by unfold padN;omega
 refine⟨?_,by omega,this.1⟩
 unfold Mk.dobj
 rw[aBj,List.length_append,nums_len]
 simp only[List.length_cons,List.length_nil]
 rw[e]
 omega
theorem aFk (m:Mk)(s:List Int):(Mk.fobj m s).length=40+s.length+padN s.length∧(40+s.length+padN s.length)%8=0∧padN s.length≤7:=by
 have:=aFs s.length
 have e:padN (24+s.length)=padN s.length:=by unfold padN;omega
 refine⟨?_,by omega,this.1⟩
 unfold Mk.fobj
 rw[aBj,List.length_append,nums_len]
 simp only[List.length_cons,List.length_nil]
 rw[e]
 omega
theorem aCx {m:Mk}(h:Inv m)(s:List Int):(Mk.put1 m s).b.length=m.b.length+(Mk.dobj m s).length:=by
 have hs:=aIh h.ds.1 s
 have d:=h.len
 show(hung (m.b++Mk.dobj m s) m.datas 288 m.b.length (Mk.dslot m s)).length=_
 rw[aIg,List.length_append]
 ·rw[List.length_append];omega
 ·intro k c
  have:=(h.dat k c).1
  rw[List.length_append];omega
theorem aF7 {m:Mk}(h:Inv m)(s:List Int):(Mk.named m m.fields (Mk.tf m) s).b.length=m.b.length+(Mk.fobj m s).length:=by
 have hs:=aIi h.fs.1 s
 have d:=h.len
 show(hung (m.b++Mk.fobj m s) m.fields (Mk.tf m) m.b.length (Mk.fslot m s)).length=_
 rw[aIg,List.length_append]
 ·rw[List.length_append];unfold Mk.tf;omega
 ·intro k c
  have:=(h.fld k c).1
  rw[List.length_append];omega
theorem aEL (l:List Kn)(s:Nat):inSlot l s≤l.length:=Me.aCv l s
theorem aIj {m:Mk}(h:Inv m)(s:List Int)(hs:AllB s)(p:s.length≤400):Inv (Mk.put1 m s):=by
 have g:=aCx h s
 obtain⟨l,r,t⟩:=aBY m s
 rw[l]at g
 have:=h.l8
 refine {F:=h.F,ds:=h.ds,fs:=h.fs,n2:=?_,n4:=?_,len:=by rw[g];exact Nat.le_trans h.len (by omega),l8:=by omega,dat:=?_,fld:=?_,mn:=?_,n7:=?_,n15:=?_,n16:=?_,n18:=?_,n19:=?_,dep:=Nat.le_trans h.dep (by omega),dn:=?_,fn:=Nat.le_trans h.fn (by omega)}
 ·rw[←h.n2];rfl
 ·show _=((Mk.tf m:Nat):Int)
  rw[←h.n4];rfl
 ·intro k f
  rcases List.mem_append.1 (show k∈m.datas++_ from f)with f|f
  ·obtain⟨a,b,c,d,e⟩:=h.dat k f
   exact⟨by omega,b,c,d.mono (by omega),by omega⟩
  ·rw[List.mem_singleton.1 f]
   exact⟨by show m.b.length+64≤_;omega,hs,p,Chain.nil _,Nat.zero_le _⟩
 ·intro k f
  obtain⟨a,b⟩:=h.fld k f
  exact⟨by omega,b⟩
 ·obtain⟨n,q,i,o⟩:=h.mn
  exact⟨n,by rw[←q];rfl,i.mono (by omega),by omega⟩
 ·have:=h.n7
  show 0≤m.h.N 7+1∧m.h.N 7+1≤_
  omega
 ·have:=h.n15
  show 0≤m.h.N 15+1∧m.h.N 15+1≤_
  omega
 ·have:=h.n16
  show 0≤m.h.N 16∧m.h.N 16≤_
  omega
 ·have:=h.n18
  show 0≤m.h.N 18∧m.h.N 18≤_
  omega
 ·have j:=h.n19
  have i:=aEL m.datas (Mk.dslot m s)
  have o:=h.dn
  show 0≤max (m.h.N 19) (inSlot m.datas (Mk.dslot m s):Nat)∧max (m.h.N 19) (inSlot m.datas (Mk.dslot m s):Nat)≤_
  omega
 ·show(m.datas++_).length≤_
  have:=h.dn
  rw[List.length_append,List.length_singleton]
  omega
theorem aKs {m:Mk}(h:Inv m)(s:List Int)(hs:AllB s):Inv (Mk.named m m.fields (Mk.tf m) s):=by
 have g:=aF7 h s
 obtain⟨j,p,q⟩:=aFk m s
 rw[j]at g
 have:=h.l8
 refine {F:=h.F,ds:=h.ds,fs:=h.fs,n2:=?_,n4:=?_,len:=by rw[g];exact Nat.le_trans h.len (by omega),l8:=by omega,dat:=?_,fld:=?_,mn:=?_,n7:=?_,n15:=?_,n16:=?_,n18:=?_,n19:=?_,dep:=?_,dn:=Nat.le_trans h.dn (by omega),fn:=?_}
 ·rw[←h.n2];rfl
 ·show _=((Mk.tf m:Nat):Int)
  rw[←h.n4];rfl
 ·intro k f
  obtain⟨a,b,c,d,e⟩:=h.dat k f
  exact⟨by omega,b,c,d.mono (by omega),by omega⟩
 ·intro k f
  rcases List.mem_append.1 (show k∈m.fields++_ from f)with f|f
  ·obtain⟨a,b⟩:=h.fld k f
   exact⟨by omega,b⟩
  ·rw[List.mem_singleton.1 f]
   exact⟨by show m.b.length+40≤_;omega,hs⟩
 ·obtain⟨n,o,i,l⟩:=h.mn
  exact⟨n,by rw[←o];rfl,i.mono (by omega),by omega⟩
 ·have:=h.n7
  show 0≤m.h.N 7+1∧m.h.N 7+1≤_
  omega
 ·have:=h.n15
  show 0≤m.h.N 15∧m.h.N 15≤_
  omega
 ·have:=h.n16
  show 0≤m.h.N 16+1∧m.h.N 16+1≤_
  omega
 ·have:=h.n18
  show 0≤m.h.N 18∧m.h.N 18≤_
  omega
 ·have:=h.n19
  show 0≤m.h.N 19∧m.h.N 19≤_
  omega
 ·have i:=aEL m.fields (Mk.fslot m s)
  have l:=h.fn
  have:=h.dep
  show max m.depth (inSlot m.fields (Mk.fslot m s))≤_
  omega
 ·show(m.fields++_).length≤_
  have:=h.fn
  rw[List.length_append,List.length_singleton]
  omega
theorem aD0 {m:Mk}(h:Inv m){l:List Int}(c:l.length=m.b.length):Inv {m with b:=l}:=
 {F:=h.F,ds:=h.ds,fs:=h.fs,n2:=h.n2,n4:=h.n4,len:=by show _≤l.length;rw[c];exact h.len,l8:=by show l.length%8=0;rw[c];exact h.l8
  dat:=by show ∀k∈m.datas,k.at_+64≤l.length∧AllB k.text∧k.text.length≤400∧Chain l.length k.arrays (k.count-1)∧k.count≤l.length
          rw[c];exact h.dat
  fld:=by show ∀k∈m.fields,k.at_+40≤l.length∧AllB k.text
          rw[c];exact h.fld
  mn:=by show ∃n:Nat,m.h.N 8=(n:Int)∧Chain l.length m.main n∧n≤l.length
         rw[c];exact h.mn
  n7:=by show _∧_≤(l.length:Int);rw[c];exact h.n7
  n15:=by show _∧_≤(l.length:Int);rw[c];exact h.n15
  n16:=by show _∧_≤(l.length:Int);rw[c];exact h.n16
  n18:=by show _∧_≤(l.length:Int);rw[c];exact h.n18
  n19:=by show _∧_≤(l.length:Int);rw[c];exact h.n19
  dep:=by show _≤l.length;rw[c];exact h.dep
  dn:=by show _≤l.length;rw[c];exact h.dn
  fn:=by show _≤l.length;rw[c];exact h.fn}
theorem aIk {m:Mk}{a k:Nat}(d:a+64≤m.b.length)(c:k+40≤m.b.length):(Mk.put2 m a k).b.length=m.b.length:=by
 show(put8 (put8 _ _ _) _ _).length=_
 rw[aAp _ _ _ (by rw[aAp _ _ _ (by omega)];omega),aAp _ _ _ (by omega)]
theorem aMO {m:Mk}(h:Inv m){a k:Nat}(d:a+64≤m.b.length)(c:k+40≤m.b.length):Inv (Mk.put2 m a k):=aD0 h (aIk d c)
theorem aF8 {l:List Kn}{s:List Int}{k:Kn}(h:findK l s=some k):k∈l:=List.mem_of_find?_eq_some h
theorem aD1 {m:Mk}(h:Inv m)(s:List Int)(hs:AllB s)(c:s.length≤64):Inv (Mk.fieldOf m s).2∧(Mk.fieldOf m s).1+40≤(Mk.fieldOf m s).2.b.length∧m.b.length≤(Mk.fieldOf m s).2.b.length∧(Mk.fieldOf m s).2.b.length≤m.b.length+112∧(Mk.fieldOf m s).2.datas=m.datas∧(Mk.fieldOf m s).2.C=m.C∧(Mk.fieldOf m s).2.main=m.main∧(Mk.fieldOf m s).2.h.N 8=m.h.N 8∧(Mk.fieldOf m s).2.h.N 9=m.h.N 9:=by
 unfold Mk.fieldOf
 cases e:findK m.fields s with
 |some k=>
  dsimp only
  exact⟨h,(h.fld k (aF8 e)).1,yR _,Nat.le_add_right _ _,rfl,rfl,rfl,rfl,rfl⟩
 |none=>
  dsimp only
  have d:=aF7 h s
  obtain⟨g,f,i⟩:=aFk m s
  exact⟨aKs h s hs,by show m.b.length+40≤_;omega,by show m.b.length≤(Mk.named m m.fields (Mk.tf m) s).b.length;omega,by show(Mk.named m m.fields (Mk.tf m) s).b.length≤_;omega,rfl,rfl,rfl,rfl,rfl⟩
theorem aCb {m:Mk}(h:Inv m)(c s:List Int)(j:AllB c)(d:c.length≤64)(hs:AllB s)(f:s.length≤400):
 Inv (Mk.dataNew m c s)∧m.b.length≤(Mk.dataNew m c s).b.length∧(Mk.dataNew m c s).b.length≤m.b.length+600∧(Mk.dataNew m c s).datas=m.datas++ [⟨s,m.b.length,Mk.dslot m s,0,[]⟩]∧(Mk.dataNew m c s).C=m.C∧(Mk.dataNew m c s).main=m.main∧(Mk.dataNew m c s).h.N 8=m.h.N 8∧(Mk.dataNew m c s).h.N 9=m.h.N 9:=by
 have q:=aIj h s hs f
 have t:=aCx h s
 obtain⟨A,y,B⟩:=aBY m s
 obtain⟨i,g,u,x,n,r,l,p,o⟩:=aD1 q c j d
 have z:=aIk (m:=(Mk.fieldOf (Mk.put1 m s) c).2) (a:=m.b.length) (k:=(Mk.fieldOf (Mk.put1 m s) c).1) (by omega) g
 refine⟨aMO i (by omega) g,?_,?_,?_,?_,?_,?_,?_⟩
 ·show _≤(Mk.put2 _ _ _).b.length;omega
 ·show(Mk.put2 _ _ _).b.length≤_;omega
 ·exact n
 ·exact r
 ·exact l
 ·exact p
 ·exact o
end Nb
namespace Nc
open Bytes8 Ob Ga Ma Mb Mc Mf Mg Yd Na Nb
theorem aAE (k:Nat):4≤roomN k∧roomN k≤256:=by
 unfold roomN
 by_cases h:k>6
 ·rw[if_pos h];decide
 ·rw[if_neg h]
  have:1≤2^k:=Nat.one_le_two_pow
  omega
theorem aJf:rooms 0=0:=rfl
theorem aIl (k:Nat):rooms k≤256*k:=by
 induction k with
 |zero=>rw[aJf];omega
 |succ k ih=>rw[aAv];have:=(aAE k).2;omega
theorem aFl (k:Nat):4*k≤rooms k:=by
 induction k with
 |zero=>omega
 |succ k ih=>rw[aAv];have:=(aAE k).1;omega
theorem rooms_mono {a b:Nat}(h:a≤b):rooms a≤rooms b:=by
 induction h with
 |refl=>exact yR _
 |step _ ih=>rw[aAv];omega
def aobj (k:Nat):List Int:=objB 6 (arrB 0 (List.replicate (roomN k) 0))
theorem aCy (k:Nat):(aobj k).length=24+8*roomN k:=by
 unfold aobj arrB
 rw[aBj,List.length_append,nums_len,nums_len,List.length_replicate]
 have e:padN (8* [(0:Int)].length+8*roomN k)=0:=by unfold padN;simp only[List.length_cons,List.length_nil];omega
 rw[e]
 simp only[List.length_cons,List.length_nil]
 omega
def Mk.linkNew (m:Mk)(arr:List Nat)(fr item:Nat):Mk:=
 {m.object (aobj arr.length)with
  h:=setN (m.object (aobj arr.length)).h 18 (m.h.N 18+1)
  b:=put8 (put8 (m.b++aobj arr.length) (if arr=[]then fr else arr.getLastD 0+16) m.b.length) (m.b.length+24) item}
def Mk.linkOld (m:Mk)(arr:List Nat)(n item:Nat):Mk:={m with b:=put8 m.b (arr.getLastD 0+24+8*(n-rooms (arr.length-1))) item}
def Mk.link (m:Mk)(arr:List Nat)(n fr item:Nat):Mk×List Nat×Nat:=
 if n=rooms arr.length then(Mk.linkNew m arr fr item,arr++ [m.b.length],1)else(Mk.linkOld m arr n item,arr,n-rooms (arr.length-1)+1)
theorem aDn {arr:List Nat}(h:arr≠ []):arr.getLastD 0=arr[arr.length-1]'(by have:=List.length_pos_iff.2 h;omega):=by
 rw[List.getLastD_eq_getLast?,List.getLast?_eq_getElem?,List.getElem?_eq_getElem (by have:=List.length_pos_iff.2 h;omega)]
 rfl
theorem aA6 {L:Nat}{arr:List Nat}{n:Nat}(h:Chain L arr n)(b:arr≠ []):arr.getLastD 0+24+8*roomN (arr.length-1)≤L:=by
 rw[aDn b];exact h.fits _ _
theorem aFm {L:Nat}{arr:List Nat}{n:Nat}(h:Chain L arr n)(b:n≠rooms arr.length):arr≠ []:=by
 intro e
 subst e
 have:=h.le
 exact b (by rw[show rooms ([]:List Nat).length=0 from rfl]at this⊢;omega)
theorem aD2 {L:Nat}{arr:List Nat}{n:Nat}(h:Chain L arr n)(b:n≠rooms arr.length):rooms (arr.length-1)≤n∧n-rooms (arr.length-1)<roomN (arr.length-1):=by
 have c:=List.length_pos_iff.2 (aFm h b)
 have g:=h.ge c
 have f:=h.le
 have d:=aAv (arr.length-1)
 rw[show arr.length-1+1=arr.length by omega]at d
 omega
theorem aD3 {m:Mk}{arr:List Nat}{n fr item:Nat}(h:Chain m.b.length arr n)(g:fr+8≤m.b.length):(Mk.linkNew m arr fr item).b.length=m.b.length+(24+8*roomN arr.length):=by
 have c:=aCy arr.length
 have f:=aAE arr.length
 show(put8 (put8 (m.b++aobj arr.length) _ _) _ _).length=_
 have d:(if arr=[]then fr else arr.getLastD 0+16)+8≤(m.b++aobj arr.length).length:=by
  rw[List.length_append,c]
  split
  ·omega
  ·next hne=>have:=aA6 h hne;omega
 rw[aAp _ _ _ (by rw[aAp _ _ _ d,List.length_append,c];omega),aAp _ _ _ d,List.length_append,c]
theorem aD4 {m:Mk}{arr:List Nat}{n item:Nat}(h:Chain m.b.length arr n)(c:n≠rooms arr.length):(Mk.linkOld m arr n item).b.length=m.b.length:=by
 have f:=aA6 h (aFm h c)
 have d:=aD2 h c
 exact aAp _ _ _ (by omega)
theorem aKt {L c at_:Nat}{arr:List Nat}{n:Nat}(h:Chain L arr n)(g:L≤c)(f:n=rooms arr.length)(d:at_+24+8*roomN arr.length≤c):Chain c (arr++ [at_]) (n+1):=by
 have j:=aAE arr.length
 refine⟨?_,fun _=>?_,fun i hi=>?_⟩
 ·rw[List.length_append,List.length_singleton,aAv];omega
 ·rw[List.length_append,List.length_singleton,Nat.add_sub_cancel];omega
 ·rw[List.length_append,List.length_singleton]at hi
  rcases Nat.lt_or_ge i arr.length with b|b
  ·rw[List.getElem_append_left b]
   have:=h.fits i b
   omega
  ·rw[List.getElem_append_right b]
   obtain rfl:i=arr.length:=by omega
   simpa using d
theorem aJg {L:Nat}{arr:List Nat}{n:Nat}(h:Chain L arr n)(b:n≠rooms arr.length):Chain L arr (n+1):=
 ⟨by have:=h.le;omega,fun hp=>by have:=h.ge hp;omega,h.fits⟩
theorem aIm {m m':Mk}(h:Inv m)(j:m'.C=m.C)(f:m.b.length≤m'.b.length)(r:m'.b.length%8=0)(p:m'.datas=m.datas)(q:m'.fields=m.fields)(t:m'.main=m.main)(l:m'.depth=m.depth)
 (g: ∀i,i=2∨i=4∨i=8∨i=15∨i=16∨i=19→m'.h.N i=m.h.N i)(u:0≤m'.h.N 7∧m'.h.N 7≤m'.b.length)(o:0≤m'.h.N 18∧m'.h.N 18≤m'.b.length):Inv m':=
 {F:=by rw[j];exact h.F
  ds:=by rw[j];exact h.ds
  fs:=by rw[j];exact h.fs
  n2:=by rw[g 2 (by simp)];exact h.n2
  n4:=by rw[g 4 (by simp),show Mk.tf m'=Mk.tf m by unfold Mk.tf;rw[j]];exact h.n4
  len:=by rw[j];exact Nat.le_trans h.len f
  l8:=r
  dat:=fun k hk=>by
   rw[p]at hk
   obtain⟨a,b,c,d,e⟩:=h.dat k hk
   exact⟨by omega,b,c,d.mono f,by omega⟩
  fld:=fun k hk=>by
   rw[q]at hk
   obtain⟨a,b⟩:=h.fld k hk
   exact⟨by omega,b⟩
  mn:=by
   obtain⟨n,x,s,y⟩:=h.mn
   exact⟨n,by rw[g 8 (by simp),x],by rw[t];exact s.mono f,by omega⟩
  n7:=u
  n15:=by rw[g 15 (by simp)];have:=h.n15;omega
  n16:=by rw[g 16 (by simp)];have:=h.n16;omega
  n18:=o
  n19:=by rw[g 19 (by simp)];have:=h.n19;omega
  dep:=by rw[l];exact Nat.le_trans h.dep f
  dn:=by rw[p];exact Nat.le_trans h.dn f
  fn:=by rw[q];exact Nat.le_trans h.fn f}
theorem aA7 {m:Mk}(h:Inv m)(l:List Int)(b:l.length%8=0)(c:0<l.length):Inv (m.object l):=by
 have e:=aAM m l
 have:=h.l8
 refine aIm h rfl (by omega) (by omega) rfl rfl rfl rfl ?_ ?_ ?_
 ·rintro i (rfl|rfl|rfl|rfl|rfl|rfl)<;>rfl
 ·have:=h.n7
  show 0≤m.h.N 7+1∧m.h.N 7+1≤_
  omega
 ·have:=h.n18
  show 0≤m.h.N 18∧m.h.N 18≤_
  omega
theorem aDD {m:Mk}(h:Inv m){arr:List Nat}{n fr:Nat}(item:Nat)(c:Chain m.b.length arr n)(k:fr+8≤m.b.length):
 Inv (Mk.link m arr n fr item).1∧Chain (Mk.link m arr n fr item).1.b.length (Mk.link m arr n fr item).2.1 (n+1)∧m.b.length≤(Mk.link m arr n fr item).1.b.length∧(Mk.link m arr n fr item).1.b.length≤m.b.length+2100∧
 (Mk.link m arr n fr item).1.datas=m.datas∧(Mk.link m arr n fr item).1.fields=m.fields∧(Mk.link m arr n fr item).1.main=m.main∧(Mk.link m arr n fr item).1.C=m.C∧(Mk.link m arr n fr item).1.depth=m.depth∧(∀i,i≠6→i≠7→i≠18→(Mk.link m arr n fr item).1.h.N i=m.h.N i)∧(Mk.link m arr n fr item).1.h.st=m.h.st∧(Mk.link m arr n fr item).2.2≤256:=by
 unfold Mk.link
 by_cases e:n=rooms arr.length
 ·simp only[if_pos e]
  have d:=aD3 (item:=item) c k
  have o:=aAE arr.length
  have p:=aA7 h (aobj arr.length) (by rw[aCy];omega) (by rw[aCy];omega)
  have f:=aAM m (aobj arr.length)
  rw[aCy]at f
  refine⟨?_,?_,by omega,by omega,rfl,rfl,rfl,rfl,rfl,?_,rfl,by decide⟩
  ·have:=h.l8
   refine aIm h rfl (by omega) (by omega) rfl rfl rfl rfl ?_ ?_ ?_
   ·rintro i (rfl|rfl|rfl|rfl|rfl|rfl)<;>rfl
   ·have:=h.n7
    show 0≤m.h.N 7+1∧m.h.N 7+1≤_
    omega
   ·have:=h.n18
    show 0≤m.h.N 18+1∧m.h.N 18+1≤_
    omega
  ·exact aKt c (by omega) e (by omega)
  ·intro i j l g
   show(setN (setN (setN m.h 6 _) 7 _) 18 _).N i=_
   rw[aA1 _ _ _ _ g,aA1 _ _ _ _ l,aA1 _ _ _ _ j]
 ·simp only[if_neg e]
  have d:=aD4 (item:=item) c e
  have q:=aD2 c e
  have o:=aAE (arr.length-1)
  exact⟨aD0 h d,by rw[d];exact aJg c e,by omega,by omega,rfl,rfl,rfl,rfl,rfl,fun _ _ _ _=>rfl,rfl,by omega⟩
end Nc
namespace Mh
open Bytes8 Blk8 Own8 OwnM OwnE Od Ga Ma Kf Mb Mc Md Mf Gb Ge
open Gq (aAc aBu aAk)
open Gp (aAO)
theorem aJh {w:World}{g:Nat}{T:TypeId}{m:Mk}{S:Sl}(c:Blk w g (Mk.cells m S) T):w.rangeAt g 52 (m.h.cells 20):=fun j v hj=>by
 have d:j<90:=by
  have:=(List.getElem?_eq_some_iff.1 hj).1
  rw[HD.len]at this
  omega
 have b:=c.cell (Mk.get m S (52+j) (by omega))
 unfold Mk.at_ at b
 rw[if_pos (by omega),if_neg (by omega),show 52+j-52=j by omega]at b
 rw[m.h.get 20 j (by omega)]at hj
 injection hj with hj
 subst hj
 exact b
theorem aPJ (h:HD)(m:Nat)(v:Int):(h.cells m).set 2 (.int .i64 v)=({h with st:=v}:HD).cells m:=by
 refine aAO _ _ m _ _ (by omega) ?_ (fun i hi hne=>?_)
 ·unfold HD.at_
  rfl
 ·unfold HD.at_
  repeat' split
  all_goals first|rfl|(exfalso;omega)
theorem aPK (h:HD)(v:Int):(h.cells 20).set 68 (.int .u64 v)=(setN h 1 v).cells 20:=by
 refine aAO _ _ 20 _ _ (by omega) rfl (fun i hi hne=>?_)
 unfold HD.at_
 simp only[setN]
 repeat' split
 all_goals first|rfl|(exfalso;omega)
attribute [local irreducible] Mk.cells HD.cells wpList Code.wp
theorem aDE (B g b cb:Nat)(S:Sl)(m:Mk)(w:World)(h:MkB w B g b cb S m):
 Calls Tryz.prog 66 #[.pointer (some ⟨g,0,none⟩)] w fun e w'=>e= .returned (.int .u64 (m.h.N 9))∧w=w':=by
 have c:=h.st.cell (Mk.get_Nk _ _ 9 128 (by decide) rfl)
 go_enter Tryz.func66,Tryz.ntmps66
 go_wp2
 go_ret
 exact⟨rfl,rfl⟩
def Mk.head (m:Mk)(st:Int):HD:=setN {m.h with st:=st} 1 ((m.b.length:Int)-272)
theorem aD5 (B g c cb:Nat)(S:Sl)(m:Mk)(st:Int)(w:World)(h:MkB w B g c cb S m)(hb:272≤m.b.length∧m.b.length≤1000000)(ok:(Mk.head m st).Ok 20)(aa:m.depth≤1000000):
 Calls Tryz.prog 27 #[.pointer (some ⟨g,0,none⟩),.int .i64 st] w (Owned ((HD.plus (Mk.head m st) (m.depth:Int)).bytes 21++m.b.drop 272) m.b.length w):=by
 obtain⟨F,ac⟩:=hb
 have Y:=h.st.lt
 have HR:=yH (aJh h.st)
 have q:=(aBs h.own).1
 have u:=yH h
 generalize L:m.b.length=n at*
 have l:=yH L
 clear L
 have C:=yH fun(W:World) (hW:Below w.heap.size w W) (hR:Blk W w.heap.size ((Mk.head m st).cells 20) 99)=>show W.rangeAt w.heap.size 0 ((Mk.head m st).cells 20)∧W.cell? ⟨g,142,none⟩=some (.int .u64 (m.depth:Int))∧W.cell? ⟨g,143,none⟩=some (.slice (some ⟨c,0,none⟩) n cb)from
  ⟨fun j v hj=>by rw[Nat.zero_add];exact hR.cell hj,(MkB.below u.out hW).st.cell (Mk.get_depth _ _),l.out▸(MkB.below u.out hW).st.cell (Mk.get_b _ _)⟩
 have A:=yH fun(W:World) (hW:Below w.heap.size w W)=>show Bytes W (cutA (some ⟨c,0,none⟩) cb 272) (m.b.drop 272)from by
  have:=Bytes.cut (MkB.below u.out hW).own.bytes cb 272 (n-272) (by rw[l.out];exact q)
  rw[List.take_of_length_le (by rw[List.length_drop,l.out];exact yR _)]at this
  exact this
 have hcut: ∀W:World,(Instr.slice 24 (.slice (some ⟨c,0,none⟩) n cb) (some (.int .i64 272)) none none).run Tryz.prog W= .ok (.slice (cutA (some ⟨c,0,none⟩) cb 272) (n-272) (cb-272)) W:=fun W=>aJC (some ⟨c,0,none⟩) n cb 272 F W
 have b1:=yH ((Below.refl w.heap.size w).alloc (yR _) (.cells Tryz.zeroCells99 99))
 have H:=yH (heap_alloc_new w (.cells Tryz.zeroCells99 99))
 have B1:=yH (below_setRow b1.out (yR _) (m.h.cells 20).toArray)
 have D:=yH (show Blk ((w.alloc (.cells Tryz.zeroCells99 99)).setRow w.heap.size (m.h.cells 20).toArray) w.heap.size (m.h.cells 20) 99 from setRow_heap _ w.heap.size _ _ 99 (0,0) H.out)
 clear h
 go_enter Tryz.func27,Tryz.ntmps27
 go_upto_region 2 with(first
  |((with_reducible apply aAb 9);refine wpList_load_mid rfl 99 (.tmp 8) rfl g 52 rfl (m.h.cells 20) _ HR.out Tryz.underlying99 rfl (aBu _) ?_)
  |((with_reducible apply aAa (.tmp 5) (.tmp 9));refine wpList_store_row rfl 99 (.tmp 5) (.tmp 9) rfl w.heap.size (m.h.cells 20).toArray rfl rfl 99 Tryz.zeroCells99 H.out (aAc _) aAk (HD.one _ 20) ?_)
  |fail)
 generalize (w.alloc (.cells Tryz.zeroCells99 99)).setRow w.heap.size (m.h.cells 20).toArray=w1 at*
 have r2:=D.out.cell (m.h.get 20 2 (by decide))
 have z2:=D.out.frozen 2
 have x:=yH (D.out.set_ 2 (.int .i64 st))
 have ab:=x.out.cell (i:=68) ((List.getElem?_set_ne (by decide)).trans (m.h.get_N 20 1 (by decide)))
 have ad:=x.out.frozen 68
 have I:=yH (B1.out.setCell (p:=⟨w.heap.size,2,none⟩) (yR _) (.int .i64 st))
 have J:(w1.setCell ⟨w.heap.size,2,none⟩ (.int .i64 st)).cell? ⟨g,143,none⟩=some (.slice (some ⟨c,0,none⟩) n cb):=l.out▸(MkB.below u.out I.out).st.cell (Mk.get_b _ _)
 go_upto_region 4 with fail
 have d:=x.out.set_ 68 (.int .u64 ((n:Int)-272))
 rw[aPJ,aPK]at d
 have s:=yH (I.out.setCell (p:=⟨w.heap.size,68,none⟩) (yR _) (.int .u64 ((n:Int)-272)))
 have d:=yH (show Blk _ w.heap.size ((Mk.head m st).cells 20) 99 from by unfold Mk.head;rw[l.out];exact d)
 generalize (w1.setCell ⟨w.heap.size,2,none⟩ (.int .i64 st)).setCell ⟨w.heap.size,68,none⟩ (.int .u64 ((n:Int)-272))=w3 at*
 have X:0≤(m.depth:Int)∧(m.depth:Int)≤18446744073709551615:=⟨by omega,by omega⟩
 refine wp_region_noPanic ?_
 refine wp_region_held_drew (S:=fun W:World=>W.rangeAt w.heap.size 0 ((Mk.head m st).cells 20)∧W.cell? ⟨g,142,none⟩=some (.int .u64 (m.depth:Int))∧W.cell? ⟨g,143,none⟩=some (.slice (some ⟨c,0,none⟩) n cb)) (by kernel_rfl) (by exact C.out _ s.out.drew d.out) (fun hHeld=>?_)
 refine tk (i:=0) (oi:=⟨some 21,_,_,_,_,_⟩) rfl (yieldsIf_load_mid (by rfl) _ _ rfl _ _ rfl _ _ (fun _ h=>h.1) Tryz.underlying99 rfl (aBu _)) ?_
 try simp only[Act.put,sA,sZ,sS]
 refine tq 1 22 rfl (fun W hSw=>by go_simp;try (with_reducible rfl)) ?_
 try simp only[Act.put,sA,sZ,sS]
 refine tq 2 23 rfl (fun W hSw=>by go_simp;try (with_reducible rfl)) ?_
 try simp only[Act.put,sA,sZ,sS]
 refine tq 3 24 rfl (fun W hSw=>by go_simp;try (with_reducible rfl)) ?_
 try simp only[Act.put,sA,sZ,sS]
 refine tq 4 25 rfl (fun W hSw=>by have G:=hSw.2.1;go_simp;try (with_reducible rfl)) ?_
 try simp only[Act.put,sA,sZ,sS]
 refine tq 6 27 rfl (fun W hSw=>by go_simp;try (with_reducible rfl)) ?_
 try simp only[Act.put,sA,sZ,sS]
 refine tq 7 28 rfl (fun W hSw=>by go_simp;try (with_reducible rfl)) ?_
 try simp only[Act.put,sA,sZ,sS]
 refine tq 8 29 rfl (fun W hSw=>by go_simp;try (with_reducible rfl)) ?_
 try simp only[Act.put,sA,sZ,sS]
 refine tq 9 30 rfl (fun W hSw=>by have G:=hSw.2.2;go_simp;try (with_reducible rfl)) ?_
 try simp only[Act.put,sA,sZ,sS]
 refine tq 10 31 rfl (fun W hSw=>by go_simp;try (with_reducible rfl)) ?_
 try simp only[Act.put,sA,sZ,sS]
 refine rd 5 rfl (fun K hK=>?_)
 go_simp
 (refine(aJa (Mk.head m st) ok (m.depth:Int) X _).mono ?_);rintro e w4 ⟨A4,c4,rfl,r,f⟩;have y:=yH r;have E:=yH (s.out.trans (((Below.refl w3.heap.size w3).drew.trans f).mono s.out.size));have R:=yH (d.out.below ((Below.refl w3.heap.size w3).drew.trans f) d.out.lt);clear r f
 try go_wp2_with fail
 refine hK.out _ _ (by exact C.out _ E.out R.out) (fun hHeld=>?_)
 clear hK K
 try simp only[Act.put,sA,sZ,sS]
 refine rd 11 rfl (fun K hK=>?_)
 refine aAg (o:=⟨some 32,_,_,_,_,_⟩) rfl (.tmp 26) (.tmp 31) rfl w3.heap.size A4 272 c4 _ rfl y.out (cutA (some ⟨c,0,none⟩) cb 272) (n-272) (cb-272) (m.b.drop 272) rfl (A.out _ E.out) (by rw[List.length_drop,l.out]) (by omega) ?_
 intro V c5 w5 t k
 have z:=yH t
 have M:=yH (E.out.trans (k.mono s.out.size))
 have R5:=yH (R.out.below k d.out.lt)
 clear t k
 refine hK.out _ _ (by exact C.out _ M.out R5.out) (fun hHeld=>?_)
 clear hK K
 try simp only[Act.put,sA,sZ,sS]
 refine tq 12 4 rfl (fun W hSw=>by go_simp;try (with_reducible rfl)) ?_
 try simp only[Act.put,sA,sZ,sS]
 refine wpAnyH_done (by kernel_rfl) ?_ _
 refine NoPanic.normal ?_
 go_wp2
 go_ret
 have Z:272+(n-272)=n:=by omega
 have N:=z.out
 rw[Z]at N
 exact⟨V,c5,rfl,Own.base N s.out.size,M.out⟩
end Mh
namespace Nd
open Bytes8 Blk8 Own8 OwnA OwnE Od Ga Ma Kf Mb Mc Md Mf Mg Fa Fb Dc Na Nc
structure Path (g:Nat)(p:Pl)(w:World)(p':Pl)(w':World):Prop where
 foot: ∀k,p'.foot g k→p.foot g k∨w.heap.size≤k
 kept:KeptF (p.foot g) w w'
theorem Path.refl (g:Nat)(p:Pl)(w:World):Path g p w p w:=⟨fun _ h=> .inl h,KeptF.refl _ _⟩
theorem Path.trans {g:Nat}{p c b:Pl}{w w1 w2:World}(h:Path g p w c w1)(k:Path g c w1 b w2):Path g p w b w2:=
 ⟨fun i hi=>(k.foot i hi).elim (h.foot i) (fun h1=> .inr (Nat.le_trans h.kept.size h1)),h.kept.trans k.kept fun i hi hF=>(h.foot i hF).elim id (fun h1=>absurd hi (by omega))⟩
theorem Path.below {g:Nat}{p b:Pl}{w w1 w2:World}(h:Path g p w b w1)(c:Below w1.heap.size w1 w2):Path g p w b w2:=⟨h.foot,h.kept.trans (KeptF.of_below (F:=None') c) fun _ _ h=>h.elim⟩
theorem Path.of_below {g:Nat}{p:Pl}{w w2:World}(b:Below w.heap.size w w2):Path g p w p w2:=(Path.refl g p w).below b
theorem Path.base {g B:Nat}{p p':Pl}{w w':World}(h:Path g p w p' w')(c:B≤w.heap.size)(b: ∀k,p.foot g k→B≤k):Below B w w':=h.kept.below c b
theorem Path.set {g:Nat}{p b:Pl}{w w1:World}(h:Path g p w b w1)(i:Nat)(v:Value):Path g p w b (w1.setCell ⟨g,i,none⟩ v):=⟨h.foot,h.kept.setCell (p:=⟨g,i,none⟩) (fun _=>Or.inl rfl) v⟩
theorem Path.drew {g:Nat}{p b:Pl}{w w1:World}(h:Path g p w b w1):Path g p w b w1.drew:=⟨h.foot,h.kept.drew⟩
theorem Path.put8 {g:Nat}{p:Pl}{w w1:World}(h:Put8 p.bb w w1):Path g p w p w1:=⟨fun _ h=> .inl h,h.kept.mono fun i hi=> .inr (.inl hi)⟩
variable {w w' : World} {B g : Nat} {p p' : Pl} {m m' : Mk}
theorem At.drew (h:At w B g p m):At w.drew B g p m:=h.below (Below.refl _ _).drew
theorem At.cb (h:At w B g p m):w.cell? ⟨g,143,none⟩=some (.slice (some ⟨p.bb,0,none⟩) m.b.length p.cb):=h.st.st.cell (Mk.get_b _ _)
theorem At.cd (h:At w B g p m):w.cell? ⟨g,144,none⟩=some (.slice p.D p.nd p.cd):=h.st.st.cell (Mk.get_d _ _)
theorem At.cf (h:At w B g p m):w.cell? ⟨g,145,none⟩=some (.slice p.F p.nf p.cf):=h.st.st.cell (Mk.get_f _ _)
theorem At.cm (h:At w B g p m):w.cell? ⟨g,146,none⟩=some p.M:=h.st.st.cell (Mk.get_m _ _)
theorem At.cN (h:At w B g p m)(i k:Nat)(b:i<20)(c:k=119+i):w.cell? ⟨g,k,none⟩=some (.int .u64 (m.h.N i)):=h.st.st.cell (Mk.get_Nk _ _ i k b c)
theorem At.fz (h:At w B g p m)(i:Nat):w.frozen? ⟨g,i,none⟩=false:=h.st.st.frozen i
theorem At.struct {S':Nat}{v:Value}(h:At w B g p m)(i:Nat)(v:Value)(st:MkB (w.setCell ⟨g,i,none⟩ v) B g p.bb p.cb p.S m')(b:m.datas=m'.datas)(d:m.fields=m'.fields)(c:m.main=m'.main):At (w.setCell ⟨g,i,none⟩ v) B g p m':=
 h.turn ((KeptF.refl _ w).setCell (p:=⟨g,i,none⟩) (fun _=>Or.inl rfl) v) (fun _ h=> .inl h) st
  (OwnE.keptF h.dr (KeptF.set1 w g i v) fun j hj e=>(h.dg j hj).1 e) (OwnE.keptF h.fr (KeptF.set1 w g i v) fun j hj e=>(h.fg j hj).1 e)
  (h.dm.trans b) (h.fm.trans d) (fun q hq=> .inl hq) (.inl ⟨rfl,c.symm⟩) h.dg h.fg h.df (fun q hq=> .inl hq)
theorem At.setN (h:At w B g p m)(i k:Nat)(b:i<20)(c:k=119+i)(v:Int):At (w.setCell ⟨g,k,none⟩ (.int .u64 v)) B g p {m with h:=Ma.setN m.h i v}:=
 At.struct (S':=0) (v:= .bool true) h k _ (MkB.setN h.st i k b c v) rfl rfl rfl
theorem At.same (h:At w B g p m)(j:m.C=m'.C)(i:m.h=m'.h)(l:m.depth=m'.depth)(d:m.b=m'.b)(k:m.datas=m'.datas)(c:m.fields=m'.fields)(f:m.main=m'.main):At w B g p m':=
 {st:=MkB.same h.st j i l d,dr:=h.dr,fr:=h.fr,dm:=h.dm.trans k,fm:=h.fm.trans c,da:=h.da,ma:=f▸h.ma,dg:=h.dg,fg:=h.fg,df:=h.df,gB:=h.gB,fo:=h.fo}
theorem At.put8 (h:At w B g p m){l:List Int}(d:l.length=m.b.length)(f:Own w' B (some ⟨p.bb,0,none⟩) m.b.length p.cb l)(c:Put8 p.bb w w'):At w' B g p {m with b:=l}:=
 h.turn (c.kept.mono fun i hi=> .inr (.inl hi)) (fun _ h=> .inl h) (h.st.put d f c) (OwnE.keptF h.dr c.kept fun j hj e=>(h.dg j hj).2 e) (OwnE.keptF h.fr c.kept fun j hj e=>(h.fg j hj).2 e) h.dm h.fm (fun q hq=> .inl hq) (.inl ⟨rfl,rfl⟩) h.dg h.fg h.df (fun q hq=> .inl hq)
theorem aAW (a:Nat)(z:Int)(f:z=(a:Int))(v:Int)(w:World)(h:At w B g p m)(c:a+8≤m.b.length)(d:m.b.length≤4000000):
 Calls Tryz.prog 83 #[.pointer (some ⟨g,0,none⟩),.int .u64 z,.int .u64 v] w fun e w'=>e= .returned (.tuple #[])∧At w' B g p {m with b:=Ma.put8 m.b a v}∧Path g p w p w':=
 (aF2 g p.bb p.cb m.b.length a z f _ _ m.b v B w h.st.st (Mk.get_b _ _) h.st.own h.st.ne c d).mono fun e w' ⟨h1,h2,h3⟩=>⟨h1,At.put8 h (aAp _ _ _ c) h2 h3,Path.put8 h3⟩
def Moved (B g:Nat)(p:Pl)(m:Mk)(w w':World):Prop:= ∃bb' cb',At w' B g {p with bb:=bb',cb:=cb'} m∧Path g p w {p with bb:=bb',cb:=cb'} w'
theorem aCc (o:Option Addr)(k r:Nat)(n:List Int)(w:World)(h:At w B g p m)(z:Bytes w o n)(d:n.length=k)(x:0<m.b.length)(s:m.b.length+k≤4000000)(u:0≤m.h.N 7∧m.h.N 7≤1000000):
 Calls Tryz.prog 79 #[.pointer (some ⟨g,0,none⟩),.slice o k r] w fun e w'=>e= .returned (.int .u64 (m.b.length:Nat))∧Moved B g p (m.object n) w w':=
 (aEJ B g p.bb p.cb p.S m o k r n w h.st z d x s u h.gB).mono fun e w' ⟨h1,b',c',h2,c,h4⟩=>by
   have l:KeptF (p.foot g) w w':=h4.mono fun i hi=>hi.elim Or.inl (fun e=> .inr (.inl e))
   have f: ∀k,Pl.foot {p with bb:=b',cb:=c'} g k→p.foot g k∨w.heap.size≤k:=by
    rintro k (e|e|e|e)
    ·exact .inl (.inl e)
    ·rcases c with c|c
     ·exact .inl (.inr (.inl (e.trans c)))
     ·exact .inr (by rw[show k=b' from e];exact c)
    ·exact .inl (.inr (.inr (.inl e)))
    ·exact .inl (.inr (.inr (.inr e)))
   have y: ∀k,ownB p.D=some k→k≠b':=fun k d e=>by
    rcases c with c|c
    ·exact(h.dg k d).2 (e.trans c)
    ·have:=(OwnE.ltB h.dr k d).2;omega
   have t: ∀k,ownB p.F=some k→k≠b':=fun k d e=>by
    rcases c with c|c
    ·exact(h.fg k d).2 (e.trans c)
    ·have:=(OwnE.ltB h.fr k d).2;omega
   exact⟨h1,b',c',h.turn l f h2 (OwnE.keptF h.dr h4 fun j hj e=>e.elim (h.dg j hj).1 (h.dg j hj).2) (OwnE.keptF h.fr h4 fun j hj e=>e.elim (h.fg j hj).1 (h.fg j hj).2) h.dm h.fm (fun q hq=> .inl hq) (.inl ⟨rfl,rfl⟩) (fun k d=>⟨(h.dg k d).1,y k d⟩) (fun k d=>⟨(h.fg k d).1,t k d⟩) h.df (fun q hq=> .inl hq),f,l⟩
def Stp (B g:Nat)(p:Pl)(m:Mk)(w w':World):Prop:= ∃p',At w' B g p' m∧Path g p w p' w'
def StpD (B g:Nat)(p:Pl)(m:Mk)(w w':World):Prop:= ∃p',At w' B g p' m∧Path g p w p' w'∧(∀x∈p'.dl,x∈p.dl∨(x.2= .slice none 0 0∧x.1.arrays=[]))∧p'.M=p.M
theorem aF9 {l:List (Kn×Value)}{b:List Kn}(e:l.map Prod.fst=b)(s:List Int):findK b s=(Mg.look l s).map Prod.fst:=by
 subst e
 unfold findK Mg.look
 rw[List.find?_map]
 rfl
theorem aJi (s:List Int)(w:World)(h:At w B g p m)(I:Inv m)(hs:AllB s)(N:s.length≤64)(V:m.b.length≤90000):
 Calls Tryz.prog 132 #[.pointer (some ⟨g,0,none⟩),.string (T s)] w fun e w'=>e= .returned (.int .u64 ((Mk.fieldOf m s).1:Nat))∧ ∃p',At w' B g p' (Mk.fieldOf m s).2∧Path g p w p' w'∧p'.dl=p.dl∧p'.M=p.M:=by
 have A:p.nf≤100000:=by
  have R:=aAy h.fr
  have L:=congrArg List.length h.fm
  rw[List.length_map]at L
  have:=I.fn
  omega
 have H:=I.len
 have y: ∀q∈p.fl,q.1∈m.fields:=fun q hq=>by rw[←h.fm];exact List.mem_map.2 ⟨q,hq,rfl⟩
 refine(aKr B g p.bb p.cb p.nf p.cf (Mk.tf m) p.S p.F p.fl m s w ⟨h.st,rfl,h.fr,h.fg,fun q hq=>(I.fld _ (y q hq)).2⟩ hs A I.F (by omega) ⟨by omega,by omega⟩ (by have:=I.n7;omega) h.gB (by have:=I.n16;omega) I.fs I.n4 (by unfold Mk.tf;omega) (fun q hq=>by have:=(I.fld _ (y q hq)).1;omega)).mono ?_
 rintro e w' (⟨k,l,rfl,rfl⟩|⟨D,rfl,f,t,z,n,C,o,r,G⟩)
 ·have e:=aF9 h.fm s
  rw[l]at e
  unfold Mk.fieldOf
  rw[e]
  exact⟨rfl,p,h,Path.refl _ _ _,rfl,rfl⟩
 ·have e:=aF9 h.fm s
  rw[D]at e
  unfold Mk.fieldOf
  rw[e]
  have u:KeptF (p.foot g) w w':=G.mono fun i hi=>hi.elim Or.inl (fun e=>e.elim (fun e=> .inr (.inl e)) (fun e=> .inr (.inr (.inr e))))
  have d: ∀k,Pl.foot {p with bb:=f,cb:=t,F:=z,nf:=p.nf+1,cf:=n,fl:=p.fl++ [(⟨s,m.b.length,Mk.fslot m s,0,[]⟩,.slice none 0 0)]} g k→p.foot g k∨w.heap.size≤k:=by
   rintro k (e|e|e|e)
   ·exact .inl (.inl e)
   ·rcases o with c|c
    ·exact .inl (.inr (.inl (e.trans c)))
    ·exact .inr (by rw[show k=f from e];exact c)
   ·exact .inl (.inr (.inr (.inl e)))
   ·rcases r with c|⟨j,c,J⟩
    ·exact .inl (.inr (.inr (.inr (c▸e))))
    ·have e:ownB z=some k:=e
     rw[c]at e
     injection e with e
     exact .inr (by omega)
  refine⟨rfl,{p with bb:=f,cb:=t,F:=z,nf:=p.nf+1,cf:=n,fl:=p.fl++ [(⟨s,m.b.length,Mk.fslot m s,0,[]⟩,.slice none 0 0)]},?_,⟨d,u⟩,rfl,rfl⟩
  have x:=C.st
  rw[h.fm]at x
  refine h.turn u d x (OwnE.keptF h.dr G ?_) C.row h.dm ?_ (fun q hq=> .inl hq) (.inl ⟨rfl,rfl⟩) ?_ C.off ?_ (fun q hq=>(List.mem_append.1 hq).elim Or.inl (fun h=> .inr (by rw[List.mem_singleton.1 h])))
  ·rintro j E (e|e|e)
   ·exact(h.dg j E).1 e
   ·exact(h.dg j E).2 e
   ·exact h.df j E e
  ·show(p.fl++_).map Prod.fst=m.fields++_
   rw[List.map_append,h.fm]
   rfl
  ·intro k l
   refine⟨(h.dg k l).1,fun e=>?_⟩
   rcases o with c|c
   ·exact(h.dg k l).2 (e.trans c)
   ·have:=(OwnE.ltB h.dr k l).2
    have e:k=f:=e
    omega
  ·intro k l e
   rcases r with c|⟨j,c,J⟩
   ·exact h.df k l (c▸e)
   ·have e:ownB z=some k:=e
    rw[c]at e
    injection e with e
    have:=(OwnE.ltB h.dr k l).2
    omega
theorem aCz (h:At w B g p m){o:Obj}{w9:World}(c:(w.alloc o).grownBy w9 (ownB p.D)):Blk w9 g (Mk.cells m {p.S with b:= .slice (some ⟨p.bb,0,none⟩) m.b.length p.cb}) 157:=
 (MkB.grown (At.below h ((Below.refl _ _).alloc (yR _) o)).st c (fun e=>(h.dg _ e).1 rfl) (fun e=>(h.dg _ e).2 rfl)).st
theorem At.pushD {n:Nat}(h:At w B g p m)(w9:World)(o:Obj)(k:Kn)(A:Value)(i:Option Addr)(l:Nat)(L:n=p.nd+1)(R:OwnE 173 5 w9 B i n l (kf p.dl++knC k A))(s:(w.alloc o).grownBy w9 (ownB p.D))(u:ownB i=ownB p.D∨ownB i=some (w.alloc o).heap.size)(H:Arr w (p.away B g) A k.arrays):
 At (w9.setCell ⟨g,144,none⟩ (.slice i n l)) B g {p with D:=i,nd:=n,cd:=l,dl:=p.dl++ [(k,A)]} {m with datas:=m.datas++ [k]}∧Path g p w {p with D:=i,nd:=n,cd:=l,dl:=p.dl++ [(k,A)]} (w9.setCell ⟨g,144,none⟩ (.slice i n l)):=by
 subst L
 have E:Below w.heap.size w (w.alloc o):=(Below.refl _ _).alloc (yR _) o
 have J:=At.below h E
 have N:(w.alloc o).heap.size=w.heap.size+1:=by simp
 have I:KeptF (p.foot g) w w9:=(KeptF.of_below (F:=p.foot g) E).grown s (fun k H _=> .inr (.inr (.inl H)))
 have t:=I.setCell (p:=⟨g,144,none⟩) (fun _=>Or.inl rfl) (.slice i (p.nd+1) l)
 have f: ∀z,Pl.foot {p with D:=i,nd:=p.nd+1,cd:=l,dl:=p.dl++ [(k,A)]} g z→p.foot g z∨w.heap.size≤z:=by
  rintro z (e|e|e|e)
  ·exact .inl (.inl e)
  ·exact .inl (.inr (.inl e))
  ·have e:ownB i=some z:=e
   rcases u with G|G
   ·exact .inl (.inr (.inr (.inl (G▸e))))
   ·rw[G]at e
    injection e with e
    exact .inr (by omega)
  ·exact .inl (.inr (.inr (.inr e)))
 have V:=h.st.st.lt
 have M:=(aEI h.st.own).2
 have C: ∀j,ownB i=some j→j≠g∧j≠p.bb:=fun j c=>by
  rcases u with y|y
  ·exact h.dg j (y▸c)
  ·rw[y]at c
   injection c with c
   omega
 have r:MkB w9 B g p.bb p.cb p.S m:=MkB.grown J.st s (fun e=>(h.dg _ e).1 rfl) (fun e=>(h.dg _ e).2 rfl)
 refine⟨?_,f,t⟩
 refine h.turn t f ?_ ?_ ?_ ?_ h.fm ?_ (.inl ⟨rfl,rfl⟩) C h.fg ?_ (fun q x=> .inl x)
 ·have:=r.st.set_ 144 (.slice i (p.nd+1) l)
  rw[Mk.set_d]at this
  have e:=MkB.same (B:=B) (cb:=p.cb) (m:=m) (m':={m with datas:=m.datas++ [k]}) (S:={p.S with d:= .slice i (p.nd+1) l}) ⟨this,aBD r.own r.ne _ _,r.ne⟩ rfl rfl rfl rfl
  exact e
 ·unfold OwnK
  rw[aKp]
  exact Mf.OwnE.keptF R (KeptF.set1 w9 g 144 _) (fun j c e=>(C j c).1 e)
 ·refine Mf.OwnE.keptF (OwnE.keptG J.fr s fun j c e=>h.df j e c) (KeptF.set1 w9 g 144 _) (fun j c e=>(h.fg j c).1 e)
 ·show(p.dl++_).map Prod.fst=m.datas++_
  rw[List.map_append,h.dm]
  rfl
 ·intro q x
  rcases List.mem_append.1 x with x|x
  ·exact .inl x
  ·rw[List.mem_singleton.1 x]
   right
   exact H.kept t (fun _ _ h h2=>h (.inl h2)) fun b hb hf h2=>h2.elim (fun h2=>(f b h2).elim (fun h=>hf (.inl h)) (fun G=>absurd hb (by omega))) (fun h=>hf (.inr h))
 ·intro j c e
  rcases u with y|y
  ·exact h.df j (y▸c) e
  ·have c:ownB i=some j:=c
   rw[y]at c
   injection c with c
   have:=(OwnE.ltB h.fr j e).2
   omega
theorem At.allF {n:Nat}(h:At w B g p m)(E:ownB p.F=none)(w9:World)(fl:List (Kn×Value))(fs:List Kn)(b:Option Addr)(d:Nat)(G:OwnE 173 5 w9 B b n d (kf fl))(o:w.grownBy w9 none)(x:ownB b=none∨ownB b=some w.heap.size)(u:fl.map Prod.fst=fs)(C: ∀q∈fl,q.2= .slice none 0 0):
 At (w9.setCell ⟨g,145,none⟩ (.slice b n d)) B g {p with F:=b,nf:=n,cf:=d,fl:=fl} {m with fields:=fs}∧Path g p w {p with F:=b,nf:=n,cf:=d,fl:=fl} (w9.setCell ⟨g,145,none⟩ (.slice b n d)):=by
 have A:KeptF (p.foot g) w w9:=(KeptF.refl (p.foot g) w).grown o (fun k t _=>by cases t)
 have s:=A.setCell (p:=⟨g,145,none⟩) (fun _=>Or.inl rfl) (.slice b n d)
 have H:=h.st.st.lt
 have z:=(aEI h.st.own).2
 have l: ∀j,ownB b=some j→w.heap.size≤j:=fun j hj=>by
  rcases x with y|y
  ·rw[y]at hj;cases hj
  ·rw[y]at hj
   injection hj with hj
   omega
 have c: ∀r,Pl.foot {p with F:=b,nf:=n,cf:=d,fl:=fl} g r→p.foot g r∨w.heap.size≤r:=by
  rintro r (e|e|e|e)
  ·exact .inl (.inl e)
  ·exact .inl (.inr (.inl e))
  ·exact .inl (.inr (.inr (.inl e)))
  ·exact .inr (l r e)
 have i:MkB w9 B g p.bb p.cb p.S m:=MkB.grown h.st o (fun e=>by cases e) (fun e=>by cases e)
 refine⟨?_,c,s⟩
 refine h.turn s c ?_ ?_ ?_ h.dm u (fun q hq=> .inl hq) (.inl ⟨rfl,rfl⟩) h.dg ?_ ?_ (fun q hq=> .inr (C q hq))
 ·have:=i.st.set_ 145 (.slice b n d)
  rw[Mk.set_f]at this
  have e:=MkB.same (B:=B) (cb:=p.cb) (m:=m) (m':={m with fields:=fs}) (S:={p.S with f:= .slice b n d}) ⟨this,aBD i.own i.ne _ _,i.ne⟩ rfl rfl rfl rfl
  exact e
 ·exact Mf.OwnE.keptF (OwnE.keptG h.dr o fun j hj e=>by cases e) (KeptF.set1 w9 g 145 _) (fun j hj e=>(h.dg j hj).1 e)
 ·exact Mf.OwnE.keptF G (KeptF.set1 w9 g 145 _) (fun j hj e=>by have:=l j hj;have e:j=g:=e;omega)
 ·intro k t
  have:=l k t
  have D:p.bb<w.heap.size:=z
  exact⟨by omega,by show k≠p.bb;omega⟩
 ·intro k t e
  have:=l k e
  have:=(OwnE.ltB h.dr k t).2
  omega
end Nd
end Go.Proofs.YtlelnfokffflnaaGreat
