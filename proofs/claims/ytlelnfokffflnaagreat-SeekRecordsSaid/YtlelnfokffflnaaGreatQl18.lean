/-
  Texts beneath the proof.
-/
import Derived.Test.YtlelnfokffflnaaGreatQl17
set_option linter.unusedVariables false
set_option linter.unusedSimpArgs false
set_option maxRecDepth 100000
set_option maxHeartbeats 2000000
open Go.ChangeShapes Go.WideShapes Go.ChangeAt Go.RowKit
namespace Go.Proofs.YtlelnfokffflnaaGreat
namespace Nb
open Bytes8 Ob Ga Ma Mc Mf Mg Na
theorem aIg (b:List Int)(l:List Kn)(t a slot:Nat)(f:t+16*slot+16≤b.length)(c: ∀k∈l,k.at_+32≤b.length):(hung b l t a slot).length=b.length:=by
 unfold hung
 by_cases h:inSlot l slot=0
 ·rw[if_pos h,aAp _ _ _ (by rw[aAp _ _ _ (by omega)];omega),aAp _ _ _ (by omega)]
 ·rw[if_neg h]
  obtain⟨q,d,e⟩:=Me.aEK h
  have:=c q d
  rw[e,aAp _ _ _ (by rw[aAp _ _ _ (by omega)];omega),aAp _ _ _ (by omega)]
theorem aAM (m:Mk)(l:List Int):(m.object l).b.length=m.b.length+l.length:=by simp[Mk.object]
theorem aBN (h:HD)(i:Nat)(v:Int):(setN h i v).N i=v:=by simp[setN]
theorem aA1 (h:HD)(i j:Nat)(v:Int)(e:j≠i):(setN h i v).N j=h.N j:=by simp[setN,e]
theorem aIh {m:Mk}(h:0<m.C.ds)(s:List Int):Mk.dslot m s<m.C.ds:=by
 unfold Mk.dslot
 have b:=Int.emod_nonneg (Mk.sum m s) (show(m.C.ds:Int)≠0 by omega)
 have a:=Int.emod_lt_of_pos (Mk.sum m s) (show(0:Int)<(m.C.ds:Int)by omega)
 omega
theorem aIi {m:Mk}(h:0<m.C.fs)(s:List Int):Mk.fslot m s<m.C.fs:=by
 unfold Mk.fslot
 have b:=Int.emod_nonneg (Mk.sum m s) (show(m.C.fs:Int)≠0 by omega)
 have a:=Int.emod_lt_of_pos (Mk.sum m s) (show(0:Int)<(m.C.fs:Int)by omega)
 omega
theorem aBY (m:Mk)(s:List Int):(Mk.dobj m s).length=64+s.length+padN s.length∧(64+s.length+padN s.length)%8=0∧padN s.length≤7:=by
 have:=aFs s.length
 have e:padN (48+s.length)=padN s.length:=by unfold padN;omega
 refine⟨?_,by omega,this.1⟩
 unfold Mk.dobj
 rw[aBj,List.length_append,nums_len]
 simp only[List.length_cons,List.length_nil]
 rw[e]
 omega
theorem aFk (m:Mk)(s:List Int):(Mk.fobj m s).length=40+s.length+padN s.length∧(40+s.length+padN s.length)%8=0∧padN s.length≤7:=by
 have:=aFs s.length
 have e:padN (24+s.length)=padN s.length:=by unfold padN;omega
 refine⟨?_,by omega,this.1⟩
 unfold Mk.fobj
 rw[aBj,List.length_append,nums_len]
 simp only[List.length_cons,List.length_nil]
 rw[e]
 omega
theorem aCx {m:Mk}(h:Inv m)(s:List Int):(Mk.put1 m s).b.length=m.b.length+(Mk.dobj m s).length:=by
 have hs:=aIh h.ds.1 s
 have c:=h.len
 show(hung (m.b++Mk.dobj m s) m.datas 288 m.b.length (Mk.dslot m s)).length=_
 rw[aIg,List.length_append]
 ·rw[List.length_append];omega
 ·intro k a
  have:=(h.dat k a).1
  rw[List.length_append];omega
theorem aF7 {m:Mk}(h:Inv m)(s:List Int):(Mk.named m m.fields (Mk.tf m) s).b.length=m.b.length+(Mk.fobj m s).length:=by
 have hs:=aIi h.fs.1 s
 have c:=h.len
 show(hung (m.b++Mk.fobj m s) m.fields (Mk.tf m) m.b.length (Mk.fslot m s)).length=_
 rw[aIg,List.length_append]
 ·rw[List.length_append];unfold Mk.tf;omega
 ·intro k a
  have:=(h.fld k a).1
  rw[List.length_append];omega
theorem aEL (l:List Kn)(s:Nat):inSlot l s≤l.length:=Me.aCv l s
theorem aIj {m:Mk}(h:Inv m)(s:List Int)(hs:AllB s)(o:s.length≤400):Inv (Mk.put1 m s):=by
 have i:=aCx h s
 obtain⟨l,r,t⟩:=aBY m s
 rw[l]at i
 have:=h.l8
 refine {F:=h.F,ds:=h.ds,fs:=h.fs,n2:=?_,n4:=?_,len:=by rw[i];exact Nat.le_trans h.len (by omega),l8:=by omega,dat:=?_,fld:=?_,mn:=?_,n7:=?_,n15:=?_,n16:=?_,n18:=?_,n19:=?_,dep:=Nat.le_trans h.dep (by omega),dn:=?_,fn:=Nat.le_trans h.fn (by omega)}
 ·rw[←h.n2];rfl
 ·show _=((Mk.tf m:Nat):Int)
  rw[←h.n4];rfl
 ·intro k f
  rcases List.mem_append.1 (show k∈m.datas++_ from f)with f|f
  ·obtain⟨a,b,c,d,e⟩:=h.dat k f
   exact⟨by omega,b,c,d.mono (by omega),by omega⟩
  ·rw[List.mem_singleton.1 f]
   exact⟨by show m.b.length+64≤_;omega,hs,o,Chain.nil _,Nat.zero_le _⟩
 ·intro k f
  obtain⟨a,b⟩:=h.fld k f
  exact⟨by omega,b⟩
 ·obtain⟨n,p,g,q⟩:=h.mn
  exact⟨n,by rw[←p];rfl,g.mono (by omega),by omega⟩
 ·have:=h.n7
  show 0≤m.h.N 7+1∧m.h.N 7+1≤_
  omega
 ·have:=h.n15
  show 0≤m.h.N 15+1∧m.h.N 15+1≤_
  omega
 ·have:=h.n16
  show 0≤m.h.N 16∧m.h.N 16≤_
  omega
 ·have:=h.n18
  show 0≤m.h.N 18∧m.h.N 18≤_
  omega
 ·have j:=h.n19
  have g:=aEL m.datas (Mk.dslot m s)
  have q:=h.dn
  show 0≤max (m.h.N 19) (inSlot m.datas (Mk.dslot m s):Nat)∧max (m.h.N 19) (inSlot m.datas (Mk.dslot m s):Nat)≤_
  omega
 ·show(m.datas++_).length≤_
  have:=h.dn
  rw[List.length_append,List.length_singleton]
  omega
theorem aKs {m:Mk}(h:Inv m)(s:List Int)(hs:AllB s):Inv (Mk.named m m.fields (Mk.tf m) s):=by
 have i:=aF7 h s
 obtain⟨j,p,q⟩:=aFk m s
 rw[j]at i
 have:=h.l8
 refine {F:=h.F,ds:=h.ds,fs:=h.fs,n2:=?_,n4:=?_,len:=by rw[i];exact Nat.le_trans h.len (by omega),l8:=by omega,dat:=?_,fld:=?_,mn:=?_,n7:=?_,n15:=?_,n16:=?_,n18:=?_,n19:=?_,dep:=?_,dn:=Nat.le_trans h.dn (by omega),fn:=?_}
 ·rw[←h.n2];rfl
 ·show _=((Mk.tf m:Nat):Int)
  rw[←h.n4];rfl
 ·intro k f
  obtain⟨a,b,c,d,e⟩:=h.dat k f
  exact⟨by omega,b,c,d.mono (by omega),by omega⟩
 ·intro k f
  rcases List.mem_append.1 (show k∈m.fields++_ from f)with f|f
  ·obtain⟨a,b⟩:=h.fld k f
   exact⟨by omega,b⟩
  ·rw[List.mem_singleton.1 f]
   exact⟨by show m.b.length+40≤_;omega,hs⟩
 ·obtain⟨n,l,g,o⟩:=h.mn
  exact⟨n,by rw[←l];rfl,g.mono (by omega),by omega⟩
 ·have:=h.n7
  show 0≤m.h.N 7+1∧m.h.N 7+1≤_
  omega
 ·have:=h.n15
  show 0≤m.h.N 15∧m.h.N 15≤_
  omega
 ·have:=h.n16
  show 0≤m.h.N 16+1∧m.h.N 16+1≤_
  omega
 ·have:=h.n18
  show 0≤m.h.N 18∧m.h.N 18≤_
  omega
 ·have:=h.n19
  show 0≤m.h.N 19∧m.h.N 19≤_
  omega
 ·have g:=aEL m.fields (Mk.fslot m s)
  have o:=h.fn
  have:=h.dep
  show max m.depth (inSlot m.fields (Mk.fslot m s))≤_
  omega
 ·show(m.fields++_).length≤_
  have:=h.fn
  rw[List.length_append,List.length_singleton]
  omega
theorem aD0 {m:Mk}(h:Inv m){l:List Int}(a:l.length=m.b.length):Inv {m with b:=l}:=
 {F:=h.F,ds:=h.ds,fs:=h.fs,n2:=h.n2,n4:=h.n4,len:=by show _≤l.length;rw[a];exact h.len,l8:=by show l.length%8=0;rw[a];exact h.l8
  dat:=by show ∀k∈m.datas,k.at_+64≤l.length∧AllB k.text∧k.text.length≤400∧Chain l.length k.arrays (k.count-1)∧k.count≤l.length
          rw[a];exact h.dat
  fld:=by show ∀k∈m.fields,k.at_+40≤l.length∧AllB k.text
          rw[a];exact h.fld
  mn:=by show ∃n:Nat,m.h.N 8=(n:Int)∧Chain l.length m.main n∧n≤l.length
         rw[a];exact h.mn
  n7:=by show _∧_≤(l.length:Int);rw[a];exact h.n7
  n15:=by show _∧_≤(l.length:Int);rw[a];exact h.n15
  n16:=by show _∧_≤(l.length:Int);rw[a];exact h.n16
  n18:=by show _∧_≤(l.length:Int);rw[a];exact h.n18
  n19:=by show _∧_≤(l.length:Int);rw[a];exact h.n19
  dep:=by show _≤l.length;rw[a];exact h.dep
  dn:=by show _≤l.length;rw[a];exact h.dn
  fn:=by show _≤l.length;rw[a];exact h.fn}
theorem aIk {m:Mk}{a k:Nat}(d:a+64≤m.b.length)(c:k+40≤m.b.length):(Mk.put2 m a k).b.length=m.b.length:=by
 show(put8 (put8 _ _ _) _ _).length=_
 rw[aAp _ _ _ (by rw[aAp _ _ _ (by omega)];omega),aAp _ _ _ (by omega)]
theorem aMO {m:Mk}(h:Inv m){a k:Nat}(d:a+64≤m.b.length)(c:k+40≤m.b.length):Inv (Mk.put2 m a k):=aD0 h (aIk d c)
theorem aF8 {l:List Kn}{s:List Int}{k:Kn}(h:findK l s=some k):k∈l:=List.mem_of_find?_eq_some h
theorem aD1 {m:Mk}(h:Inv m)(s:List Int)(hs:AllB s)(c:s.length≤64):Inv (Mk.fieldOf m s).2∧(Mk.fieldOf m s).1+40≤(Mk.fieldOf m s).2.b.length∧m.b.length≤(Mk.fieldOf m s).2.b.length∧(Mk.fieldOf m s).2.b.length≤m.b.length+112∧(Mk.fieldOf m s).2.datas=m.datas∧(Mk.fieldOf m s).2.C=m.C∧(Mk.fieldOf m s).2.main=m.main∧(Mk.fieldOf m s).2.h.N 8=m.h.N 8∧(Mk.fieldOf m s).2.h.N 9=m.h.N 9:=by
 unfold Mk.fieldOf
 cases e:findK m.fields s with
 |some k=>
  dsimp only
  exact⟨h,(h.fld k (aF8 e)).1,yR _,Nat.le_add_right _ _,rfl,rfl,rfl,rfl,rfl⟩
 |none=>
  dsimp only
  have d:=aF7 h s
  obtain⟨a,f,g⟩:=aFk m s
  exact⟨aKs h s hs,by show m.b.length+40≤_;omega,by show m.b.length≤(Mk.named m m.fields (Mk.tf m) s).b.length;omega,by show(Mk.named m m.fields (Mk.tf m) s).b.length≤_;omega,rfl,rfl,rfl,rfl,rfl⟩
theorem aCb {m:Mk}(h:Inv m)(c s:List Int)(l:AllB c)(d:c.length≤64)(hs:AllB s)(e:s.length≤400):
 Inv (Mk.dataNew m c s)∧m.b.length≤(Mk.dataNew m c s).b.length∧(Mk.dataNew m c s).b.length≤m.b.length+600∧(Mk.dataNew m c s).datas=m.datas++ [⟨s,m.b.length,Mk.dslot m s,0,[]⟩]∧(Mk.dataNew m c s).C=m.C∧(Mk.dataNew m c s).main=m.main∧(Mk.dataNew m c s).h.N 8=m.h.N 8∧(Mk.dataNew m c s).h.N 9=m.h.N 9:=by
 have q:=aIj h s hs e
 have x:=aCx h s
 obtain⟨u,r,w⟩:=aBY m s
 obtain⟨j,f,t,y,i,g,p,o,n⟩:=aD1 q c l d
 have v:=aIk (m:=(Mk.fieldOf (Mk.put1 m s) c).2) (a:=m.b.length) (k:=(Mk.fieldOf (Mk.put1 m s) c).1) (by omega) f
 refine⟨aMO j (by omega) f,?_,?_,?_,?_,?_,?_,?_⟩
 ·show _≤(Mk.put2 _ _ _).b.length;omega
 ·show(Mk.put2 _ _ _).b.length≤_;omega
 ·exact i
 ·exact g
 ·exact p
 ·exact o
 ·exact n
end Nb
namespace Nc
open Bytes8 Ob Ga Ma Mb Mc Mf Mg Yd Na Nb
theorem aAE (k:Nat):4≤roomN k∧roomN k≤256:=by
 unfold roomN
 by_cases h:k>6
 ·rw[if_pos h];decide
 ·rw[if_neg h]
  have:1≤2^k:=Nat.one_le_two_pow
  omega
theorem aJf:rooms 0=0:=rfl
theorem aIl (k:Nat):rooms k≤256*k:=by
 induction k with
 |zero=>rw[aJf];omega
 |succ k ih=>rw[aAv];have:=(aAE k).2;omega
theorem aFl (k:Nat):4*k≤rooms k:=by
 induction k with
 |zero=>omega
 |succ k ih=>rw[aAv];have:=(aAE k).1;omega
theorem rooms_mono {a b:Nat}(h:a≤b):rooms a≤rooms b:=by
 induction h with
 |refl=>exact yR _
 |step _ ih=>rw[aAv];omega
def aobj (k:Nat):List Int:=objB 6 (arrB 0 (List.replicate (roomN k) 0))
theorem aCy (k:Nat):(aobj k).length=24+8*roomN k:=by
 unfold aobj arrB
 rw[aBj,List.length_append,nums_len,nums_len,List.length_replicate]
 have e:padN (8* [(0:Int)].length+8*roomN k)=0:=by unfold padN;simp only[List.length_cons,List.length_nil];omega
 rw[e]
 simp only[List.length_cons,List.length_nil]
 omega
def Mk.linkNew (m:Mk)(arr:List Nat)(fr item:Nat):Mk:=
 {m.object (aobj arr.length)with
  h:=setN (m.object (aobj arr.length)).h 18 (m.h.N 18+1)
  b:=put8 (put8 (m.b++aobj arr.length) (if arr=[]then fr else arr.getLastD 0+16) m.b.length) (m.b.length+24) item}
def Mk.linkOld (m:Mk)(arr:List Nat)(n item:Nat):Mk:={m with b:=put8 m.b (arr.getLastD 0+24+8*(n-rooms (arr.length-1))) item}
def Mk.link (m:Mk)(arr:List Nat)(n fr item:Nat):Mk×List Nat×Nat:=
 if n=rooms arr.length then(Mk.linkNew m arr fr item,arr++ [m.b.length],1)else(Mk.linkOld m arr n item,arr,n-rooms (arr.length-1)+1)
theorem aDn {arr:List Nat}(h:arr≠ []):arr.getLastD 0=arr[arr.length-1]'(by have:=List.length_pos_iff.2 h;omega):=by
 rw[List.getLastD_eq_getLast?,List.getLast?_eq_getElem?,List.getElem?_eq_getElem (by have:=List.length_pos_iff.2 h;omega)]
 rfl
theorem aA6 {L:Nat}{arr:List Nat}{n:Nat}(h:Chain L arr n)(a:arr≠ []):arr.getLastD 0+24+8*roomN (arr.length-1)≤L:=by
 rw[aDn a];exact h.fits _ _
theorem aFm {L:Nat}{arr:List Nat}{n:Nat}(h:Chain L arr n)(a:n≠rooms arr.length):arr≠ []:=by
 intro e
 subst e
 have:=h.le
 exact a (by rw[show rooms ([]:List Nat).length=0 from rfl]at this⊢;omega)
theorem aD2 {L:Nat}{arr:List Nat}{n:Nat}(h:Chain L arr n)(b:n≠rooms arr.length):rooms (arr.length-1)≤n∧n-rooms (arr.length-1)<roomN (arr.length-1):=by
 have a:=List.length_pos_iff.2 (aFm h b)
 have e:=h.ge a
 have d:=h.le
 have c:=aAv (arr.length-1)
 rw[show arr.length-1+1=arr.length by omega]at c
 omega
theorem aD3 {m:Mk}{arr:List Nat}{n fr item:Nat}(h:Chain m.b.length arr n)(e:fr+8≤m.b.length):(Mk.linkNew m arr fr item).b.length=m.b.length+(24+8*roomN arr.length):=by
 have a:=aCy arr.length
 have d:=aAE arr.length
 show(put8 (put8 (m.b++aobj arr.length) _ _) _ _).length=_
 have c:(if arr=[]then fr else arr.getLastD 0+16)+8≤(m.b++aobj arr.length).length:=by
  rw[List.length_append,a]
  split
  ·omega
  ·next hne=>have:=aA6 h hne;omega
 rw[aAp _ _ _ (by rw[aAp _ _ _ c,List.length_append,a];omega),aAp _ _ _ c,List.length_append,a]
theorem aD4 {m:Mk}{arr:List Nat}{n item:Nat}(h:Chain m.b.length arr n)(a:n≠rooms arr.length):(Mk.linkOld m arr n item).b.length=m.b.length:=by
 have d:=aA6 h (aFm h a)
 have c:=aD2 h a
 exact aAp _ _ _ (by omega)
theorem aKt {L b at_:Nat}{arr:List Nat}{n:Nat}(h:Chain L arr n)(e:L≤b)(f:n=rooms arr.length)(c:at_+24+8*roomN arr.length≤b):Chain b (arr++ [at_]) (n+1):=by
 have d:=aAE arr.length
 refine⟨?_,fun _=>?_,fun i hi=>?_⟩
 ·rw[List.length_append,List.length_singleton,aAv];omega
 ·rw[List.length_append,List.length_singleton,Nat.add_sub_cancel];omega
 ·rw[List.length_append,List.length_singleton]at hi
  rcases Nat.lt_or_ge i arr.length with a|a
  ·rw[List.getElem_append_left a]
   have:=h.fits i a
   omega
  ·rw[List.getElem_append_right a]
   obtain rfl:i=arr.length:=by omega
   simpa using c
theorem aJg {L:Nat}{arr:List Nat}{n:Nat}(h:Chain L arr n)(a:n≠rooms arr.length):Chain L arr (n+1):=
 ⟨by have:=h.le;omega,fun hp=>by have:=h.ge hp;omega,h.fits⟩
theorem aIm {m m':Mk}(h:Inv m)(j:m'.C=m.C)(f:m.b.length≤m'.b.length)(v:m'.b.length%8=0)(q:m'.datas=m.datas)(p:m'.fields=m.fields)(s:m'.main=m.main)(l:m'.depth=m.depth)
 (g: ∀i,i=2∨i=4∨i=8∨i=15∨i=16∨i=19→m'.h.N i=m.h.N i)(t:0≤m'.h.N 7∧m'.h.N 7≤m'.b.length)(o:0≤m'.h.N 18∧m'.h.N 18≤m'.b.length):Inv m':=
 {F:=by rw[j];exact h.F
  ds:=by rw[j];exact h.ds
  fs:=by rw[j];exact h.fs
  n2:=by rw[g 2 (by simp)];exact h.n2
  n4:=by rw[g 4 (by simp),show Mk.tf m'=Mk.tf m by unfold Mk.tf;rw[j]];exact h.n4
  len:=by rw[j];exact Nat.le_trans h.len f
  l8:=v
  dat:=fun k hk=>by
   rw[q]at hk
   obtain⟨a,b,c,d,e⟩:=h.dat k hk
   exact⟨by omega,b,c,d.mono f,by omega⟩
  fld:=fun k hk=>by
   rw[p]at hk
   obtain⟨a,b⟩:=h.fld k hk
   exact⟨by omega,b⟩
  mn:=by
   obtain⟨n,u,r,w⟩:=h.mn
   exact⟨n,by rw[g 8 (by simp),u],by rw[s];exact r.mono f,by omega⟩
  n7:=t
  n15:=by rw[g 15 (by simp)];have:=h.n15;omega
  n16:=by rw[g 16 (by simp)];have:=h.n16;omega
  n18:=o
  n19:=by rw[g 19 (by simp)];have:=h.n19;omega
  dep:=by rw[l];exact Nat.le_trans h.dep f
  dn:=by rw[q];exact Nat.le_trans h.dn f
  fn:=by rw[p];exact Nat.le_trans h.fn f}
theorem aA7 {m:Mk}(h:Inv m)(l:List Int)(a:l.length%8=0)(b:0<l.length):Inv (m.object l):=by
 have e:=aAM m l
 have:=h.l8
 refine aIm h rfl (by omega) (by omega) rfl rfl rfl rfl ?_ ?_ ?_
 ·rintro i (rfl|rfl|rfl|rfl|rfl|rfl)<;>rfl
 ·have:=h.n7
  show 0≤m.h.N 7+1∧m.h.N 7+1≤_
  omega
 ·have:=h.n18
  show 0≤m.h.N 18∧m.h.N 18≤_
  omega
theorem aDD {m:Mk}(h:Inv m){arr:List Nat}{n fr:Nat}(item:Nat)(a:Chain m.b.length arr n)(j:fr+8≤m.b.length):
 Inv (Mk.link m arr n fr item).1∧Chain (Mk.link m arr n fr item).1.b.length (Mk.link m arr n fr item).2.1 (n+1)∧m.b.length≤(Mk.link m arr n fr item).1.b.length∧(Mk.link m arr n fr item).1.b.length≤m.b.length+2100∧
 (Mk.link m arr n fr item).1.datas=m.datas∧(Mk.link m arr n fr item).1.fields=m.fields∧(Mk.link m arr n fr item).1.main=m.main∧(Mk.link m arr n fr item).1.C=m.C∧(Mk.link m arr n fr item).1.depth=m.depth∧(∀i,i≠6→i≠7→i≠18→(Mk.link m arr n fr item).1.h.N i=m.h.N i)∧(Mk.link m arr n fr item).1.h.st=m.h.st∧(Mk.link m arr n fr item).2.2≤256:=by
 unfold Mk.link
 by_cases e:n=rooms arr.length
 ·simp only[if_pos e]
  have c:=aD3 (item:=item) a j
  have g:=aAE arr.length
  have p:=aA7 h (aobj arr.length) (by rw[aCy];omega) (by rw[aCy];omega)
  have d:=aAM m (aobj arr.length)
  rw[aCy]at d
  refine⟨?_,?_,by omega,by omega,rfl,rfl,rfl,rfl,rfl,?_,rfl,by decide⟩
  ·have:=h.l8
   refine aIm h rfl (by omega) (by omega) rfl rfl rfl rfl ?_ ?_ ?_
   ·rintro i (rfl|rfl|rfl|rfl|rfl|rfl)<;>rfl
   ·have:=h.n7
    show 0≤m.h.N 7+1∧m.h.N 7+1≤_
    omega
   ·have:=h.n18
    show 0≤m.h.N 18+1∧m.h.N 18+1≤_
    omega
  ·exact aKt a (by omega) e (by omega)
  ·intro i l k f
   show(setN (setN (setN m.h 6 _) 7 _) 18 _).N i=_
   rw[aA1 _ _ _ _ f,aA1 _ _ _ _ k,aA1 _ _ _ _ l]
 ·simp only[if_neg e]
  have c:=aD4 (item:=item) a e
  have o:=aD2 a e
  have g:=aAE (arr.length-1)
  exact⟨aD0 h c,by rw[c];exact aJg a e,by omega,by omega,rfl,rfl,rfl,rfl,rfl,fun _ _ _ _=>rfl,rfl,by omega⟩
end Nc
namespace Mh
open Bytes8 Blk8 Own8 OwnM OwnE Od Ga Ma Kf Mb Mc Md Mf Gb Ge
open Gq (aAc aBu aAk)
open Gp (aAO)
theorem aJh {w:World}{g:Nat}{T:TypeId}{m:Mk}{S:Sl}(b:Blk w g (Mk.cells m S) T):w.rangeAt g 52 (m.h.cells 20):=fun j v hj=>by
 have c:j<90:=by
  have:=(List.getElem?_eq_some_iff.1 hj).1
  rw[HD.len]at this
  omega
 have a:=b.cell (Mk.get m S (52+j) (by omega))
 unfold Mk.at_ at a
 rw[if_pos (by omega),if_neg (by omega),show 52+j-52=j by omega]at a
 rw[m.h.get 20 j (by omega)]at hj
 injection hj with hj
 subst hj
 exact a
theorem aPJ (h:HD)(m:Nat)(v:Int):(h.cells m).set 2 (.int .i64 v)=({h with st:=v}:HD).cells m:=by
 refine aAO _ _ m _ _ (by omega) ?_ (fun i hi hne=>?_)
 ·unfold HD.at_
  rfl
 ·unfold HD.at_
  repeat' split
  all_goals first|rfl|(exfalso;omega)
theorem aPK (h:HD)(v:Int):(h.cells 20).set 68 (.int .u64 v)=(setN h 1 v).cells 20:=by
 refine aAO _ _ 20 _ _ (by omega) rfl (fun i hi hne=>?_)
 unfold HD.at_
 simp only[setN]
 repeat' split
 all_goals first|rfl|(exfalso;omega)
attribute [local irreducible] Mk.cells HD.cells wpList Code.wp
theorem aDE (B g a cb:Nat)(S:Sl)(m:Mk)(w:World)(h:MkB w B g a cb S m):
 Calls Tryz.prog 66 #[.pointer (some ⟨g,0,none⟩)] w fun e w'=>e= .returned (.int .u64 (m.h.N 9))∧w=w':=by
 have c:=h.st.cell (Mk.get_Nk _ _ 9 128 (by decide) rfl)
 go_enter Tryz.func66,Tryz.ntmps66
 go_wp2
 go_ret
 exact⟨rfl,rfl⟩
def Mk.head (m:Mk)(st:Int):HD:=setN {m.h with st:=st} 1 ((m.b.length:Int)-272)
theorem aD5 (B g a cb:Nat)(S:Sl)(m:Mk)(st:Int)(w:World)(h:MkB w B g a cb S m)(V:272≤m.b.length∧m.b.length≤1000000)(ok:(Mk.head m st).Ok 20)(ac:m.depth≤1000000):
 Calls Tryz.prog 27 #[.pointer (some ⟨g,0,none⟩),.int .i64 st] w (Owned ((HD.plus (Mk.head m st) (m.depth:Int)).bytes 21++m.b.drop 272) m.b.length w):=by
 obtain⟨x,aa⟩:=V
 have ab:=h.st.lt
 have R:=yH (aJh h.st)
 have q:=(aBs h.own).1
 have t:=yH h
 generalize G:m.b.length=n at*
 have k:=yH G
 clear G
 have C:=yH fun(W:World) (hW:Below w.heap.size w W) (hR:Blk W w.heap.size ((Mk.head m st).cells 20) 99)=>show W.rangeAt w.heap.size 0 ((Mk.head m st).cells 20)∧W.cell? ⟨g,142,none⟩=some (.int .u64 (m.depth:Int))∧W.cell? ⟨g,143,none⟩=some (.slice (some ⟨a,0,none⟩) n cb)from
  ⟨fun j v hj=>by rw[Nat.zero_add];exact hR.cell hj,(MkB.below t.out hW).st.cell (Mk.get_depth _ _),k.out▸(MkB.below t.out hW).st.cell (Mk.get_b _ _)⟩
 have E:=yH fun(W:World) (hW:Below w.heap.size w W)=>show Bytes W (cutA (some ⟨a,0,none⟩) cb 272) (m.b.drop 272)from by
  have:=Bytes.cut (MkB.below t.out hW).own.bytes cb 272 (n-272) (by rw[k.out];exact q)
  rw[List.take_of_length_le (by rw[List.length_drop,k.out];exact yR _)]at this
  exact this
 have hcut: ∀W:World,(Instr.slice 24 (.slice (some ⟨a,0,none⟩) n cb) (some (.int .i64 272)) none none).run Tryz.prog W= .ok (.slice (cutA (some ⟨a,0,none⟩) cb 272) (n-272) (cb-272)) W:=fun W=>aJC (some ⟨a,0,none⟩) n cb 272 x W
 have b1:=yH ((Below.refl w.heap.size w).alloc (yR _) (.cells Tryz.zeroCells99 99))
 have M:=yH (heap_alloc_new w (.cells Tryz.zeroCells99 99))
 have Y:=yH (below_setRow b1.out (yR _) (m.h.cells 20).toArray)
 have z:=yH (show Blk ((w.alloc (.cells Tryz.zeroCells99 99)).setRow w.heap.size (m.h.cells 20).toArray) w.heap.size (m.h.cells 20) 99 from setRow_heap _ w.heap.size _ _ 99 (0,0) M.out)
 clear h
 go_enter Tryz.func27,Tryz.ntmps27
 go_upto_region 2 with(first
  |((with_reducible apply aAb 9);refine wpList_load_mid rfl 99 (.tmp 8) rfl g 52 rfl (m.h.cells 20) _ R.out Tryz.underlying99 rfl (aBu _) ?_)
  |((with_reducible apply aAa (.tmp 5) (.tmp 9));refine wpList_store_row rfl 99 (.tmp 5) (.tmp 9) rfl w.heap.size (m.h.cells 20).toArray rfl rfl 99 Tryz.zeroCells99 M.out (aAc _) aAk (HD.one _ 20) ?_)
  |fail)
 generalize (w.alloc (.cells Tryz.zeroCells99 99)).setRow w.heap.size (m.h.cells 20).toArray=w1 at*
 have r2:=z.out.cell (m.h.get 20 2 (by decide))
 have z2:=z.out.frozen 2
 have A:=yH (z.out.set_ 2 (.int .i64 st))
 have ad:=A.out.cell (i:=68) ((List.getElem?_set_ne (by decide)).trans (m.h.get_N 20 1 (by decide)))
 have Z:=A.out.frozen 68
 have N:=yH (Y.out.setCell (p:=⟨w.heap.size,2,none⟩) (yR _) (.int .i64 st))
 have H:(w1.setCell ⟨w.heap.size,2,none⟩ (.int .i64 st)).cell? ⟨g,143,none⟩=some (.slice (some ⟨a,0,none⟩) n cb):=k.out▸(MkB.below t.out N.out).st.cell (Mk.get_b _ _)
 go_upto_region 4 with fail
 have d:=A.out.set_ 68 (.int .u64 ((n:Int)-272))
 rw[aPJ,aPK]at d
 have l:=yH (N.out.setCell (p:=⟨w.heap.size,68,none⟩) (yR _) (.int .u64 ((n:Int)-272)))
 have d:=yH (show Blk _ w.heap.size ((Mk.head m st).cells 20) 99 from by unfold Mk.head;rw[k.out];exact d)
 generalize (w1.setCell ⟨w.heap.size,2,none⟩ (.int .i64 st)).setCell ⟨w.heap.size,68,none⟩ (.int .u64 ((n:Int)-272))=w3 at*
 have X:0≤(m.depth:Int)∧(m.depth:Int)≤18446744073709551615:=⟨by omega,by omega⟩
 refine wp_region_noPanic ?_
 refine wp_region_held_drew (S:=fun W:World=>W.rangeAt w.heap.size 0 ((Mk.head m st).cells 20)∧W.cell? ⟨g,142,none⟩=some (.int .u64 (m.depth:Int))∧W.cell? ⟨g,143,none⟩=some (.slice (some ⟨a,0,none⟩) n cb)) (by kernel_rfl) (by exact C.out _ l.out.drew d.out) (fun hHeld=>?_)
 refine tk (i:=0) (oi:=⟨some 21,_,_,_,_,_⟩) rfl (yieldsIf_load_mid (by rfl) _ _ rfl _ _ rfl _ _ (fun _ h=>h.1) Tryz.underlying99 rfl (aBu _)) ?_
 try simp only[Act.put,sA,sZ,sS]
 refine tq 1 22 rfl (fun W hSw=>by go_simp;try (with_reducible rfl)) ?_
 try simp only[Act.put,sA,sZ,sS]
 refine tq 2 23 rfl (fun W hSw=>by go_simp;try (with_reducible rfl)) ?_
 try simp only[Act.put,sA,sZ,sS]
 refine tq 3 24 rfl (fun W hSw=>by go_simp;try (with_reducible rfl)) ?_
 try simp only[Act.put,sA,sZ,sS]
 refine tq 4 25 rfl (fun W hSw=>by have F:=hSw.2.1;go_simp;try (with_reducible rfl)) ?_
 try simp only[Act.put,sA,sZ,sS]
 refine tq 6 27 rfl (fun W hSw=>by go_simp;try (with_reducible rfl)) ?_
 try simp only[Act.put,sA,sZ,sS]
 refine tq 7 28 rfl (fun W hSw=>by go_simp;try (with_reducible rfl)) ?_
 try simp only[Act.put,sA,sZ,sS]
 refine tq 8 29 rfl (fun W hSw=>by go_simp;try (with_reducible rfl)) ?_
 try simp only[Act.put,sA,sZ,sS]
 refine tq 9 30 rfl (fun W hSw=>by have F:=hSw.2.2;go_simp;try (with_reducible rfl)) ?_
 try simp only[Act.put,sA,sZ,sS]
 refine tq 10 31 rfl (fun W hSw=>by go_simp;try (with_reducible rfl)) ?_
 try simp only[Act.put,sA,sZ,sS]
 refine rd 5 rfl (fun K hK=>?_)
 go_simp
 (refine(aJa (Mk.head m st) ok (m.depth:Int) X _).mono ?_);rintro e w4 ⟨A4,c4,rfl,r,c⟩;have y:=yH r;have u:=yH (l.out.trans (((Below.refl w3.heap.size w3).drew.trans c).mono l.out.size));have L:=yH (d.out.below ((Below.refl w3.heap.size w3).drew.trans c) d.out.lt);clear r c
 try go_wp2_with fail
 refine hK.out _ _ (by exact C.out _ u.out L.out) (fun hHeld=>?_)
 clear hK K
 try simp only[Act.put,sA,sZ,sS]
 refine rd 11 rfl (fun K hK=>?_)
 refine aAg (o:=⟨some 32,_,_,_,_,_⟩) rfl (.tmp 26) (.tmp 31) rfl w3.heap.size A4 272 c4 _ rfl y.out (cutA (some ⟨a,0,none⟩) cb 272) (n-272) (cb-272) (m.b.drop 272) rfl (E.out _ u.out) (by rw[List.length_drop,k.out]) (by omega) ?_
 intro A5 c5 w5 s f
 have D:=yH s
 have J:=yH (u.out.trans (f.mono l.out.size))
 have R5:=yH (L.out.below f d.out.lt)
 clear s f
 refine hK.out _ _ (by exact C.out _ J.out R5.out) (fun hHeld=>?_)
 clear hK K
 try simp only[Act.put,sA,sZ,sS]
 refine tq 12 4 rfl (fun W hSw=>by go_simp;try (with_reducible rfl)) ?_
 try simp only[Act.put,sA,sZ,sS]
 refine wpAnyH_done (by kernel_rfl) ?_ _
 refine NoPanic.normal ?_
 go_wp2
 go_ret
 have e9:272+(n-272)=n:=by omega
 have I:=D.out
 rw[e9]at I
 exact⟨A5,c5,rfl,Own.base I l.out.size,J.out⟩
end Mh
namespace Nd
open Bytes8 Blk8 Own8 OwnA OwnE Od Ga Ma Kf Mb Mc Md Mf Mg Fa Fb Dc Na Nc
structure Path (g:Nat)(p:Pl)(w:World)(p':Pl)(w':World):Prop where
 foot: ∀k,p'.foot g k→p.foot g k∨w.heap.size≤k
 kept:KeptF (p.foot g) w w'
theorem Path.refl (g:Nat)(p:Pl)(w:World):Path g p w p w:=⟨fun _ h=> .inl h,KeptF.refl _ _⟩
theorem Path.trans {g:Nat}{p a b:Pl}{w w1 w2:World}(h:Path g p w a w1)(k:Path g a w1 b w2):Path g p w b w2:=
 ⟨fun i hi=>(k.foot i hi).elim (h.foot i) (fun h1=> .inr (Nat.le_trans h.kept.size h1)),h.kept.trans k.kept fun i hi hF=>(h.foot i hF).elim id (fun h1=>absurd hi (by omega))⟩
theorem Path.below {g:Nat}{p a:Pl}{w w1 w2:World}(h:Path g p w a w1)(b:Below w1.heap.size w1 w2):Path g p w a w2:=⟨h.foot,h.kept.trans (KeptF.of_below (F:=None') b) fun _ _ h=>h.elim⟩
theorem Path.of_below {g:Nat}{p:Pl}{w w2:World}(a:Below w.heap.size w w2):Path g p w p w2:=(Path.refl g p w).below a
theorem Path.base {g B:Nat}{p p':Pl}{w w':World}(h:Path g p w p' w')(b:B≤w.heap.size)(a: ∀k,p.foot g k→B≤k):Below B w w':=h.kept.below b a
theorem Path.set {g:Nat}{p a:Pl}{w w1:World}(h:Path g p w a w1)(i:Nat)(v:Value):Path g p w a (w1.setCell ⟨g,i,none⟩ v):=⟨h.foot,h.kept.setCell (p:=⟨g,i,none⟩) (fun _=>Or.inl rfl) v⟩
theorem Path.drew {g:Nat}{p a:Pl}{w w1:World}(h:Path g p w a w1):Path g p w a w1.drew:=⟨h.foot,h.kept.drew⟩
theorem Path.put8 {g:Nat}{p:Pl}{w w1:World}(h:Put8 p.bb w w1):Path g p w p w1:=⟨fun _ h=> .inl h,h.kept.mono fun i hi=> .inr (.inl hi)⟩
variable {w w' : World} {B g : Nat} {p p' : Pl} {m m' : Mk}
theorem At.drew (h:At w B g p m):At w.drew B g p m:=h.below (Below.refl _ _).drew
theorem At.cb (h:At w B g p m):w.cell? ⟨g,143,none⟩=some (.slice (some ⟨p.bb,0,none⟩) m.b.length p.cb):=h.st.st.cell (Mk.get_b _ _)
theorem At.cd (h:At w B g p m):w.cell? ⟨g,144,none⟩=some (.slice p.D p.nd p.cd):=h.st.st.cell (Mk.get_d _ _)
theorem At.cf (h:At w B g p m):w.cell? ⟨g,145,none⟩=some (.slice p.F p.nf p.cf):=h.st.st.cell (Mk.get_f _ _)
theorem At.cm (h:At w B g p m):w.cell? ⟨g,146,none⟩=some p.M:=h.st.st.cell (Mk.get_m _ _)
theorem At.cN (h:At w B g p m)(i k:Nat)(a:i<20)(b:k=119+i):w.cell? ⟨g,k,none⟩=some (.int .u64 (m.h.N i)):=h.st.st.cell (Mk.get_Nk _ _ i k a b)
theorem At.fz (h:At w B g p m)(i:Nat):w.frozen? ⟨g,i,none⟩=false:=h.st.st.frozen i
theorem At.struct {S':Nat}{v:Value}(h:At w B g p m)(i:Nat)(v:Value)(st:MkB (w.setCell ⟨g,i,none⟩ v) B g p.bb p.cb p.S m')(c:m.datas=m'.datas)(a:m.fields=m'.fields)(b:m.main=m'.main):At (w.setCell ⟨g,i,none⟩ v) B g p m':=
 h.turn ((KeptF.refl _ w).setCell (p:=⟨g,i,none⟩) (fun _=>Or.inl rfl) v) (fun _ h=> .inl h) st
  (OwnE.keptF h.dr (KeptF.set1 w g i v) fun j hj e=>(h.dg j hj).1 e) (OwnE.keptF h.fr (KeptF.set1 w g i v) fun j hj e=>(h.fg j hj).1 e)
  (h.dm.trans c) (h.fm.trans a) (fun q hq=> .inl hq) (.inl ⟨rfl,b.symm⟩) h.dg h.fg h.df (fun q hq=> .inl hq)
theorem At.setN (h:At w B g p m)(i k:Nat)(a:i<20)(b:k=119+i)(v:Int):At (w.setCell ⟨g,k,none⟩ (.int .u64 v)) B g p {m with h:=Ma.setN m.h i v}:=
 At.struct (S':=0) (v:= .bool true) h k _ (MkB.setN h.st i k a b v) rfl rfl rfl
theorem At.same (h:At w B g p m)(e:m.C=m'.C)(a:m.h=m'.h)(i:m.depth=m'.depth)(c:m.b=m'.b)(d:m.datas=m'.datas)(f:m.fields=m'.fields)(j:m.main=m'.main):At w B g p m':=
 {st:=MkB.same h.st e a i c,dr:=h.dr,fr:=h.fr,dm:=h.dm.trans d,fm:=h.fm.trans f,da:=h.da,ma:=j▸h.ma,dg:=h.dg,fg:=h.fg,df:=h.df,gB:=h.gB,fo:=h.fo}
theorem At.put8 (h:At w B g p m){l:List Int}(c:l.length=m.b.length)(d:Own w' B (some ⟨p.bb,0,none⟩) m.b.length p.cb l)(a:Put8 p.bb w w'):At w' B g p {m with b:=l}:=
 h.turn (a.kept.mono fun i hi=> .inr (.inl hi)) (fun _ h=> .inl h) (h.st.put c d a) (OwnE.keptF h.dr a.kept fun j hj e=>(h.dg j hj).2 e) (OwnE.keptF h.fr a.kept fun j hj e=>(h.fg j hj).2 e) h.dm h.fm (fun q hq=> .inl hq) (.inl ⟨rfl,rfl⟩) h.dg h.fg h.df (fun q hq=> .inl hq)
theorem aAW (a:Nat)(z:Int)(d:z=(a:Int))(v:Int)(w:World)(h:At w B g p m)(c:a+8≤m.b.length)(f:m.b.length≤4000000):
 Calls Tryz.prog 83 #[.pointer (some ⟨g,0,none⟩),.int .u64 z,.int .u64 v] w fun e w'=>e= .returned (.tuple #[])∧At w' B g p {m with b:=Ma.put8 m.b a v}∧Path g p w p w':=
 (aF2 g p.bb p.cb m.b.length a z d _ _ m.b v B w h.st.st (Mk.get_b _ _) h.st.own h.st.ne c f).mono fun e w' ⟨h1,h2,h3⟩=>⟨h1,At.put8 h (aAp _ _ _ c) h2 h3,Path.put8 h3⟩
def Moved (B g:Nat)(p:Pl)(m:Mk)(w w':World):Prop:= ∃bb' cb',At w' B g {p with bb:=bb',cb:=cb'} m∧Path g p w {p with bb:=bb',cb:=cb'} w'
theorem aCc (n:Option Addr)(k o:Nat)(l:List Int)(w:World)(h:At w B g p m)(r:Bytes w n l)(a:l.length=k)(s:0<m.b.length)(t:m.b.length+k≤4000000)(u:0≤m.h.N 7∧m.h.N 7≤1000000):
 Calls Tryz.prog 79 #[.pointer (some ⟨g,0,none⟩),.slice n k o] w fun e w'=>e= .returned (.int .u64 (m.b.length:Nat))∧Moved B g p (m.object l) w w':=
 (aEJ B g p.bb p.cb p.S m n k o l w h.st r a s t u h.gB).mono fun e w' ⟨h1,b',c',h2,c,h4⟩=>by
   have f:KeptF (p.foot g) w w':=h4.mono fun i hi=>hi.elim Or.inl (fun e=> .inr (.inl e))
   have d: ∀k,Pl.foot {p with bb:=b',cb:=c'} g k→p.foot g k∨w.heap.size≤k:=by
    rintro k (e|e|e|e)
    ·exact .inl (.inl e)
    ·rcases c with c|c
     ·exact .inl (.inr (.inl (e.trans c)))
     ·exact .inr (by rw[show k=b' from e];exact c)
    ·exact .inl (.inr (.inr (.inl e)))
    ·exact .inl (.inr (.inr (.inr e)))
   have x: ∀k,ownB p.D=some k→k≠b':=fun k a e=>by
    rcases c with c|c
    ·exact(h.dg k a).2 (e.trans c)
    ·have:=(OwnE.ltB h.dr k a).2;omega
   have v: ∀k,ownB p.F=some k→k≠b':=fun k a e=>by
    rcases c with c|c
    ·exact(h.fg k a).2 (e.trans c)
    ·have:=(OwnE.ltB h.fr k a).2;omega
   exact⟨h1,b',c',h.turn f d h2 (OwnE.keptF h.dr h4 fun j hj e=>e.elim (h.dg j hj).1 (h.dg j hj).2) (OwnE.keptF h.fr h4 fun j hj e=>e.elim (h.fg j hj).1 (h.fg j hj).2) h.dm h.fm (fun q hq=> .inl hq) (.inl ⟨rfl,rfl⟩) (fun k a=>⟨(h.dg k a).1,x k a⟩) (fun k a=>⟨(h.fg k a).1,v k a⟩) h.df (fun q hq=> .inl hq),d,f⟩
def Stp (B g:Nat)(p:Pl)(m:Mk)(w w':World):Prop:= ∃p',At w' B g p' m∧Path g p w p' w'
def StpD (B g:Nat)(p:Pl)(m:Mk)(w w':World):Prop:= ∃p',At w' B g p' m∧Path g p w p' w'∧(∀x∈p'.dl,x∈p.dl∨(x.2= .slice none 0 0∧x.1.arrays=[]))∧p'.M=p.M
theorem aF9 {l:List (Kn×Value)}{a:List Kn}(e:l.map Prod.fst=a)(s:List Int):findK a s=(Mg.look l s).map Prod.fst:=by
 subst e
 unfold findK Mg.look
 rw[List.find?_map]
 rfl
theorem aJi (s:List Int)(w:World)(h:At w B g p m)(I:Inv m)(hs:AllB s)(J:s.length≤64)(L:m.b.length≤90000):
 Calls Tryz.prog 132 #[.pointer (some ⟨g,0,none⟩),.string (T s)] w fun e w'=>e= .returned (.int .u64 ((Mk.fieldOf m s).1:Nat))∧ ∃p',At w' B g p' (Mk.fieldOf m s).2∧Path g p w p' w'∧p'.dl=p.dl∧p'.M=p.M:=by
 have A:p.nf≤100000:=by
  have N:=aAy h.fr
  have G:=congrArg List.length h.fm
  rw[List.length_map]at G
  have:=I.fn
  omega
 have D:=I.len
 have t: ∀q∈p.fl,q.1∈m.fields:=fun q hq=>by rw[←h.fm];exact List.mem_map.2 ⟨q,hq,rfl⟩
 refine(aKr B g p.bb p.cb p.nf p.cf (Mk.tf m) p.S p.F p.fl m s w ⟨h.st,rfl,h.fr,h.fg,fun q hq=>(I.fld _ (t q hq)).2⟩ hs A I.F (by omega) ⟨by omega,by omega⟩ (by have:=I.n7;omega) h.gB (by have:=I.n16;omega) I.fs I.n4 (by unfold Mk.tf;omega) (fun q hq=>by have:=(I.fld _ (t q hq)).1;omega)).mono ?_
 rintro e w' (⟨k,f,rfl,rfl⟩|⟨z,rfl,d,v,x,u,C,l,r,E⟩)
 ·have e:=aF9 h.fm s
  rw[f]at e
  unfold Mk.fieldOf
  rw[e]
  exact⟨rfl,p,h,Path.refl _ _ _,rfl,rfl⟩
 ·have e:=aF9 h.fm s
  rw[z]at e
  unfold Mk.fieldOf
  rw[e]
  have n:KeptF (p.foot g) w w':=E.mono fun i hi=>hi.elim Or.inl (fun e=>e.elim (fun e=> .inr (.inl e)) (fun e=> .inr (.inr (.inr e))))
  have c: ∀k,Pl.foot {p with bb:=d,cb:=v,F:=x,nf:=p.nf+1,cf:=u,fl:=p.fl++ [(⟨s,m.b.length,Mk.fslot m s,0,[]⟩,.slice none 0 0)]} g k→p.foot g k∨w.heap.size≤k:=by
   rintro k (e|e|e|e)
   ·exact .inl (.inl e)
   ·rcases l with a|a
    ·exact .inl (.inr (.inl (e.trans a)))
    ·exact .inr (by rw[show k=d from e];exact a)
   ·exact .inl (.inr (.inr (.inl e)))
   ·rcases r with a|⟨j,a,H⟩
    ·exact .inl (.inr (.inr (.inr (a▸e))))
    ·have e:ownB x=some k:=e
     rw[a]at e
     injection e with e
     exact .inr (by omega)
  refine⟨rfl,{p with bb:=d,cb:=v,F:=x,nf:=p.nf+1,cf:=u,fl:=p.fl++ [(⟨s,m.b.length,Mk.fslot m s,0,[]⟩,.slice none 0 0)]},?_,⟨c,n⟩,rfl,rfl⟩
  have o:=C.st
  rw[h.fm]at o
  refine h.turn n c o (OwnE.keptF h.dr E ?_) C.row h.dm ?_ (fun q hq=> .inl hq) (.inl ⟨rfl,rfl⟩) ?_ C.off ?_ (fun q hq=>(List.mem_append.1 hq).elim Or.inl (fun h=> .inr (by rw[List.mem_singleton.1 h])))
  ·rintro j y (e|e|e)
   ·exact(h.dg j y).1 e
   ·exact(h.dg j y).2 e
   ·exact h.df j y e
  ·show(p.fl++_).map Prod.fst=m.fields++_
   rw[List.map_append,h.fm]
   rfl
  ·intro k f
   refine⟨(h.dg k f).1,fun e=>?_⟩
   rcases l with a|a
   ·exact(h.dg k f).2 (e.trans a)
   ·have:=(OwnE.ltB h.dr k f).2
    have e:k=d:=e
    omega
  ·intro k f e
   rcases r with a|⟨j,a,H⟩
   ·exact h.df k f (a▸e)
   ·have e:ownB x=some k:=e
    rw[a]at e
    injection e with e
    have:=(OwnE.ltB h.dr k f).2
    omega
theorem aCz (h:At w B g p m){o:Obj}{w9:World}(a:(w.alloc o).grownBy w9 (ownB p.D)):Blk w9 g (Mk.cells m {p.S with b:= .slice (some ⟨p.bb,0,none⟩) m.b.length p.cb}) 157:=
 (MkB.grown (At.below h ((Below.refl _ _).alloc (yR _) o)).st a (fun e=>(h.dg _ e).1 rfl) (fun e=>(h.dg _ e).2 rfl)).st
theorem At.pushD {n:Nat}(h:At w B g p m)(w9:World)(o:Obj)(k:Kn)(z:Value)(f:Option Addr)(l:Nat)(L:n=p.nd+1)(I:OwnE 173 5 w9 B f n l (kf p.dl++knC k z))(r:(w.alloc o).grownBy w9 (ownB p.D))(v:ownB f=ownB p.D∨ownB f=some (w.alloc o).heap.size)(G:Arr w (p.away B g) z k.arrays):
 At (w9.setCell ⟨g,144,none⟩ (.slice f n l)) B g {p with D:=f,nd:=n,cd:=l,dl:=p.dl++ [(k,z)]} {m with datas:=m.datas++ [k]}∧Path g p w {p with D:=f,nd:=n,cd:=l,dl:=p.dl++ [(k,z)]} (w9.setCell ⟨g,144,none⟩ (.slice f n l)):=by
 subst L
 have y:Below w.heap.size w (w.alloc o):=(Below.refl _ _).alloc (yR _) o
 have H:=At.below h y
 have M:(w.alloc o).heap.size=w.heap.size+1:=by simp
 have E:KeptF (p.foot g) w w9:=(KeptF.of_below (F:=p.foot g) y).grown r (fun k G _=> .inr (.inr (.inl G)))
 have s:=E.setCell (p:=⟨g,144,none⟩) (fun _=>Or.inl rfl) (.slice f (p.nd+1) l)
 have c: ∀x,Pl.foot {p with D:=f,nd:=p.nd+1,cd:=l,dl:=p.dl++ [(k,z)]} g x→p.foot g x∨w.heap.size≤x:=by
  rintro x (e|e|e|e)
  ·exact .inl (.inl e)
  ·exact .inl (.inr (.inl e))
  ·have e:ownB f=some x:=e
   rcases v with C|C
   ·exact .inl (.inr (.inr (.inl (C▸e))))
   ·rw[C]at e
    injection e with e
    exact .inr (by omega)
  ·exact .inl (.inr (.inr (.inr e)))
 have N:=h.st.st.lt
 have J:=(aEI h.st.own).2
 have A: ∀j,ownB f=some j→j≠g∧j≠p.bb:=fun j a=>by
  rcases v with t|t
  ·exact h.dg j (t▸a)
  ·rw[t]at a
   injection a with a
   omega
 have i:MkB w9 B g p.bb p.cb p.S m:=MkB.grown H.st r (fun e=>(h.dg _ e).1 rfl) (fun e=>(h.dg _ e).2 rfl)
 refine⟨?_,c,s⟩
 refine h.turn s c ?_ ?_ ?_ ?_ h.fm ?_ (.inl ⟨rfl,rfl⟩) A h.fg ?_ (fun q u=> .inl u)
 ·have:=i.st.set_ 144 (.slice f (p.nd+1) l)
  rw[Mk.set_d]at this
  have e:=MkB.same (B:=B) (cb:=p.cb) (m:=m) (m':={m with datas:=m.datas++ [k]}) (S:={p.S with d:= .slice f (p.nd+1) l}) ⟨this,aBD i.own i.ne _ _,i.ne⟩ rfl rfl rfl rfl
  exact e
 ·unfold OwnK
  rw[aKp]
  exact Mf.OwnE.keptF I (KeptF.set1 w9 g 144 _) (fun j a e=>(A j a).1 e)
 ·refine Mf.OwnE.keptF (OwnE.keptG H.fr r fun j a e=>h.df j e a) (KeptF.set1 w9 g 144 _) (fun j a e=>(h.fg j a).1 e)
 ·show(p.dl++_).map Prod.fst=m.datas++_
  rw[List.map_append,h.dm]
  rfl
 ·intro q u
  rcases List.mem_append.1 u with u|u
  ·exact .inl u
  ·rw[List.mem_singleton.1 u]
   right
   exact G.kept s (fun _ _ h h2=>h (.inl h2)) fun b hb hf h2=>h2.elim (fun h2=>(c b h2).elim (fun h=>hf (.inl h)) (fun C=>absurd hb (by omega))) (fun h=>hf (.inr h))
 ·intro j a e
  rcases v with t|t
  ·exact h.df j (t▸a) e
  ·have a:ownB f=some j:=a
   rw[t]at a
   injection a with a
   have:=(OwnE.ltB h.fr j e).2
   omega
theorem At.allF {n:Nat}(h:At w B g p m)(D:ownB p.F=none)(w9:World)(fl:List (Kn×Value))(fs:List Kn)(a:Option Addr)(i:Nat)(A:OwnE 173 5 w9 B a n i (kf fl))(l:w.grownBy w9 none)(z:ownB a=none∨ownB a=some w.heap.size)(u:fl.map Prod.fst=fs)(t: ∀q∈fl,q.2= .slice none 0 0):
 At (w9.setCell ⟨g,145,none⟩ (.slice a n i)) B g {p with F:=a,nf:=n,cf:=i,fl:=fl} {m with fields:=fs}∧Path g p w {p with F:=a,nf:=n,cf:=i,fl:=fl} (w9.setCell ⟨g,145,none⟩ (.slice a n i)):=by
 have x:KeptF (p.foot g) w w9:=(KeptF.refl (p.foot g) w).grown l (fun k s _=>by cases s)
 have r:=x.setCell (p:=⟨g,145,none⟩) (fun _=>Or.inl rfl) (.slice a n i)
 have E:=h.st.st.lt
 have v:=(aEI h.st.own).2
 have c: ∀j,ownB a=some j→w.heap.size≤j:=fun j hj=>by
  rcases z with y|y
  ·rw[y]at hj;cases hj
  ·rw[y]at hj
   injection hj with hj
   omega
 have b: ∀o,Pl.foot {p with F:=a,nf:=n,cf:=i,fl:=fl} g o→p.foot g o∨w.heap.size≤o:=by
  rintro o (e|e|e|e)
  ·exact .inl (.inl e)
  ·exact .inl (.inr (.inl e))
  ·exact .inl (.inr (.inr (.inl e)))
  ·exact .inr (c o e)
 have d:MkB w9 B g p.bb p.cb p.S m:=MkB.grown h.st l (fun e=>by cases e) (fun e=>by cases e)
 refine⟨?_,b,r⟩
 refine h.turn r b ?_ ?_ ?_ h.dm u (fun q hq=> .inl hq) (.inl ⟨rfl,rfl⟩) h.dg ?_ ?_ (fun q hq=> .inr (t q hq))
 ·have:=d.st.set_ 145 (.slice a n i)
  rw[Mk.set_f]at this
  have e:=MkB.same (B:=B) (cb:=p.cb) (m:=m) (m':={m with fields:=fs}) (S:={p.S with f:= .slice a n i}) ⟨this,aBD d.own d.ne _ _,d.ne⟩ rfl rfl rfl rfl
  exact e
 ·exact Mf.OwnE.keptF (OwnE.keptG h.dr l fun j hj e=>by cases e) (KeptF.set1 w9 g 145 _) (fun j hj e=>(h.dg j hj).1 e)
 ·exact Mf.OwnE.keptF A (KeptF.set1 w9 g 145 _) (fun j hj e=>by have:=c j hj;have e:j=g:=e;omega)
 ·intro k s
  have:=c k s
  have C:p.bb<w.heap.size:=v
  exact⟨by omega,by show k≠p.bb;omega⟩
 ·intro k s e
  have:=c k e
  have:=(OwnE.ltB h.dr k s).2
  omega
end Nd
end Go.Proofs.YtlelnfokffflnaaGreat
