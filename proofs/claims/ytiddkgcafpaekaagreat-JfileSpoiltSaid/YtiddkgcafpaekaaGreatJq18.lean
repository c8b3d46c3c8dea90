/-
  Texts beneath the proof.
-/
import Derived.Test.YtiddkgcafpaekaaGreatJq17
set_option linter.unusedVariables false
set_option linter.unusedSimpArgs false
set_option maxRecDepth 100000
set_option maxHeartbeats 2000000
open Go.ChangeShapes Go.WideShapes Go.ChangeAt Go.RowKit
namespace Go.Proofs.YtiddkgcafpaekaaGreat
namespace Nb
open Bytes8 Ob Ga Ma Mc Mf Mg Na
theorem hung_len (b:List Int)(l:List Kn)(t a slot:Nat)(ht:t+16*slot+16≤b.length)(ha: ∀k∈l,k.at_+32≤b.length):(hung b l t a slot).length=b.length:=by
 unfold hung
 by_cases h:inSlot l slot=0
 ·rw[if_pos h,put8_len _ _ _ (by rw[put8_len _ _ _ (by omega)];omega),put8_len _ _ _ (by omega)]
 ·rw[if_neg h]
  obtain⟨q,hq,e⟩:=Me.lastIn_mem h
  have:=ha q hq
  rw[e,put8_len _ _ _ (by rw[put8_len _ _ _ (by omega)];omega),put8_len _ _ _ (by omega)]
theorem object_len (m:Mk)(l:List Int):(m.object l).b.length=m.b.length+l.length:=by simp[Mk.object]
theorem setN_same (h:HD)(i:Nat)(v:Int):(setN h i v).N i=v:=by simp[setN]
theorem setN_ne (h:HD)(i j:Nat)(v:Int)(e:j≠i):(setN h i v).N j=h.N j:=by simp[setN,e]
theorem dslot_lt {m:Mk}(h:0<m.C.ds)(s:List Int):Mk.dslot m s<m.C.ds:=by
 unfold Mk.dslot
 have h1:=Int.emod_nonneg (Mk.sum m s) (show(m.C.ds:Int)≠0 by omega)
 have h2:=Int.emod_lt_of_pos (Mk.sum m s) (show(0:Int)<(m.C.ds:Int)by omega)
 omega
theorem fslot_lt {m:Mk}(h:0<m.C.fs)(s:List Int):Mk.fslot m s<m.C.fs:=by
 unfold Mk.fslot
 have h1:=Int.emod_nonneg (Mk.sum m s) (show(m.C.fs:Int)≠0 by omega)
 have h2:=Int.emod_lt_of_pos (Mk.sum m s) (show(0:Int)<(m.C.fs:Int)by omega)
 omega
theorem dobj_len (m:Mk)(s:List Int):(Mk.dobj m s).length=64+s.length+padN s.length∧(64+s.length+padN s.length)%8=0∧padN s.length≤7:=by
 have:=padN_le s.length
 have e:padN (48+s.length)=padN s.length:=by unfold padN;omega
 refine⟨?_,by omega,this.1⟩
 unfold Mk.dobj
 rw[objB_len,List.length_append,nums_len]
 simp only[List.length_cons,List.length_nil]
 rw[e]
 omega
theorem fobj_len (m:Mk)(s:List Int):(Mk.fobj m s).length=40+s.length+padN s.length∧(40+s.length+padN s.length)%8=0∧padN s.length≤7:=by
 have:=padN_le s.length
 have e:padN (24+s.length)=padN s.length:=by unfold padN;omega
 refine⟨?_,by omega,this.1⟩
 unfold Mk.fobj
 rw[objB_len,List.length_append,nums_len]
 simp only[List.length_cons,List.length_nil]
 rw[e]
 omega
theorem put1_len {m:Mk}(h:Inv m)(s:List Int):(Mk.put1 m s).b.length=m.b.length+(Mk.dobj m s).length:=by
 have hs:=dslot_lt h.ds.1 s
 have hl:=h.len
 show(hung (m.b++Mk.dobj m s) m.datas 288 m.b.length (Mk.dslot m s)).length=_
 rw[hung_len,List.length_append]
 ·rw[List.length_append];omega
 ·intro k hk
  have:=(h.dat k hk).1
  rw[List.length_append];omega
theorem named_len {m:Mk}(h:Inv m)(s:List Int):(Mk.named m m.fields (Mk.tf m) s).b.length=m.b.length+(Mk.fobj m s).length:=by
 have hs:=fslot_lt h.fs.1 s
 have hl:=h.len
 show(hung (m.b++Mk.fobj m s) m.fields (Mk.tf m) m.b.length (Mk.fslot m s)).length=_
 rw[hung_len,List.length_append]
 ·rw[List.length_append];unfold Mk.tf;omega
 ·intro k hk
  have:=(h.fld k hk).1
  rw[List.length_append];omega
theorem inSlot_len (l:List Kn)(s:Nat):inSlot l s≤l.length:=Me.inSlot_le l s
theorem inv_put1 {m:Mk}(h:Inv m)(s:List Int)(hs:AllB s)(hl:s.length≤400):Inv (Mk.put1 m s):=by
 have hL:=put1_len h s
 obtain⟨d1,d2,d3⟩:=dobj_len m s
 rw[d1]at hL
 have:=h.l8
 refine {F:=h.F,ds:=h.ds,fs:=h.fs,n2:=?_,n4:=?_,len:=by rw[hL];exact Nat.le_trans h.len (by omega),l8:=by omega,dat:=?_,fld:=?_,mn:=?_,n7:=?_,n15:=?_,n16:=?_,n18:=?_,n19:=?_,dep:=Nat.le_trans h.dep (by omega),dn:=?_,fn:=Nat.le_trans h.fn (by omega)}
 ·rw[←h.n2];rfl
 ·show _=((Mk.tf m:Nat):Int)
  rw[←h.n4];rfl
 ·intro k hk
  rcases List.mem_append.1 (show k∈m.datas++_ from hk)with hk|hk
  ·obtain⟨a,b,c,d,e⟩:=h.dat k hk
   exact⟨by omega,b,c,d.mono (by omega),by omega⟩
  ·rw[List.mem_singleton.1 hk]
   exact⟨by show m.b.length+64≤_;omega,hs,hl,Chain.nil _,Nat.zero_le _⟩
 ·intro k hk
  obtain⟨a,b⟩:=h.fld k hk
  exact⟨by omega,b⟩
 ·obtain⟨n,h1,h2,h3⟩:=h.mn
  exact⟨n,by rw[←h1];rfl,h2.mono (by omega),by omega⟩
 ·have:=h.n7
  show 0≤m.h.N 7+1∧m.h.N 7+1≤_
  omega
 ·have:=h.n15
  show 0≤m.h.N 15+1∧m.h.N 15+1≤_
  omega
 ·have:=h.n16
  show 0≤m.h.N 16∧m.h.N 16≤_
  omega
 ·have:=h.n18
  show 0≤m.h.N 18∧m.h.N 18≤_
  omega
 ·have h19:=h.n19
  have h2:=inSlot_len m.datas (Mk.dslot m s)
  have h3:=h.dn
  show 0≤max (m.h.N 19) (inSlot m.datas (Mk.dslot m s):Nat)∧max (m.h.N 19) (inSlot m.datas (Mk.dslot m s):Nat)≤_
  omega
 ·show(m.datas++_).length≤_
  have:=h.dn
  rw[List.length_append,List.length_singleton]
  omega
theorem inv_named {m:Mk}(h:Inv m)(s:List Int)(hs:AllB s):Inv (Mk.named m m.fields (Mk.tf m) s):=by
 have hL:=named_len h s
 obtain⟨d1,d2,d3⟩:=fobj_len m s
 rw[d1]at hL
 have:=h.l8
 refine {F:=h.F,ds:=h.ds,fs:=h.fs,n2:=?_,n4:=?_,len:=by rw[hL];exact Nat.le_trans h.len (by omega),l8:=by omega,dat:=?_,fld:=?_,mn:=?_,n7:=?_,n15:=?_,n16:=?_,n18:=?_,n19:=?_,dep:=?_,dn:=Nat.le_trans h.dn (by omega),fn:=?_}
 ·rw[←h.n2];rfl
 ·show _=((Mk.tf m:Nat):Int)
  rw[←h.n4];rfl
 ·intro k hk
  obtain⟨a,b,c,d,e⟩:=h.dat k hk
  exact⟨by omega,b,c,d.mono (by omega),by omega⟩
 ·intro k hk
  rcases List.mem_append.1 (show k∈m.fields++_ from hk)with hk|hk
  ·obtain⟨a,b⟩:=h.fld k hk
   exact⟨by omega,b⟩
  ·rw[List.mem_singleton.1 hk]
   exact⟨by show m.b.length+40≤_;omega,hs⟩
 ·obtain⟨n,h1,h2,h3⟩:=h.mn
  exact⟨n,by rw[←h1];rfl,h2.mono (by omega),by omega⟩
 ·have:=h.n7
  show 0≤m.h.N 7+1∧m.h.N 7+1≤_
  omega
 ·have:=h.n15
  show 0≤m.h.N 15∧m.h.N 15≤_
  omega
 ·have:=h.n16
  show 0≤m.h.N 16+1∧m.h.N 16+1≤_
  omega
 ·have:=h.n18
  show 0≤m.h.N 18∧m.h.N 18≤_
  omega
 ·have:=h.n19
  show 0≤m.h.N 19∧m.h.N 19≤_
  omega
 ·have h2:=inSlot_len m.fields (Mk.fslot m s)
  have h3:=h.fn
  have:=h.dep
  show max m.depth (inSlot m.fields (Mk.fslot m s))≤_
  omega
 ·show(m.fields++_).length≤_
  have:=h.fn
  rw[List.length_append,List.length_singleton]
  omega
theorem inv_bytes {m:Mk}(h:Inv m){l:List Int}(hl:l.length=m.b.length):Inv {m with b:=l}:=
 {F:=h.F,ds:=h.ds,fs:=h.fs,n2:=h.n2,n4:=h.n4,len:=by show _≤l.length;rw[hl];exact h.len,l8:=by show l.length%8=0;rw[hl];exact h.l8
  dat:=by show ∀k∈m.datas,k.at_+64≤l.length∧AllB k.text∧k.text.length≤400∧Chain l.length k.arrays (k.count-1)∧k.count≤l.length
          rw[hl];exact h.dat
  fld:=by show ∀k∈m.fields,k.at_+40≤l.length∧AllB k.text
          rw[hl];exact h.fld
  mn:=by show ∃n:Nat,m.h.N 8=(n:Int)∧Chain l.length m.main n∧n≤l.length
         rw[hl];exact h.mn
  n7:=by show _∧_≤(l.length:Int);rw[hl];exact h.n7
  n15:=by show _∧_≤(l.length:Int);rw[hl];exact h.n15
  n16:=by show _∧_≤(l.length:Int);rw[hl];exact h.n16
  n18:=by show _∧_≤(l.length:Int);rw[hl];exact h.n18
  n19:=by show _∧_≤(l.length:Int);rw[hl];exact h.n19
  dep:=by show _≤l.length;rw[hl];exact h.dep
  dn:=by show _≤l.length;rw[hl];exact h.dn
  fn:=by show _≤l.length;rw[hl];exact h.fn}
theorem put2_len {m:Mk}{a k:Nat}(ha:a+64≤m.b.length)(hk:k+40≤m.b.length):(Mk.put2 m a k).b.length=m.b.length:=by
 show(put8 (put8 _ _ _) _ _).length=_
 rw[put8_len _ _ _ (by rw[put8_len _ _ _ (by omega)];omega),put8_len _ _ _ (by omega)]
theorem inv_put2 {m:Mk}(h:Inv m){a k:Nat}(ha:a+64≤m.b.length)(hk:k+40≤m.b.length):Inv (Mk.put2 m a k):=inv_bytes h (put2_len ha hk)
theorem findK_mem {l:List Kn}{s:List Int}{k:Kn}(h:findK l s=some k):k∈l:=List.mem_of_find?_eq_some h
theorem inv_fieldOf {m:Mk}(h:Inv m)(s:List Int)(hs:AllB s)(hl:s.length≤64):Inv (Mk.fieldOf m s).2∧(Mk.fieldOf m s).1+40≤(Mk.fieldOf m s).2.b.length∧m.b.length≤(Mk.fieldOf m s).2.b.length∧(Mk.fieldOf m s).2.b.length≤m.b.length+112∧(Mk.fieldOf m s).2.datas=m.datas∧(Mk.fieldOf m s).2.C=m.C∧(Mk.fieldOf m s).2.main=m.main∧(Mk.fieldOf m s).2.h.N 8=m.h.N 8∧(Mk.fieldOf m s).2.h.N 9=m.h.N 9:=by
 unfold Mk.fieldOf
 cases e:findK m.fields s with
 |some k=>
  dsimp only
  exact⟨h,(h.fld k (findK_mem e)).1,yR _,Nat.le_add_right _ _,rfl,rfl,rfl,rfl,rfl⟩
 |none=>
  dsimp only
  have hL:=named_len h s
  obtain⟨d1,d2,d3⟩:=fobj_len m s
  exact⟨inv_named h s hs,by show m.b.length+40≤_;omega,by show m.b.length≤(Mk.named m m.fields (Mk.tf m) s).b.length;omega,by show(Mk.named m m.fields (Mk.tf m) s).b.length≤_;omega,rfl,rfl,rfl,rfl,rfl⟩
theorem inv_dataNew {m:Mk}(h:Inv m)(nm s:List Int)(hn:AllB nm)(hnl:nm.length≤64)(hs:AllB s)(hsl:s.length≤400):
 Inv (Mk.dataNew m nm s)∧m.b.length≤(Mk.dataNew m nm s).b.length∧(Mk.dataNew m nm s).b.length≤m.b.length+600∧(Mk.dataNew m nm s).datas=m.datas++ [⟨s,m.b.length,Mk.dslot m s,0,[]⟩]∧(Mk.dataNew m nm s).C=m.C∧(Mk.dataNew m nm s).main=m.main∧(Mk.dataNew m nm s).h.N 8=m.h.N 8∧(Mk.dataNew m nm s).h.N 9=m.h.N 9:=by
 have h1:=inv_put1 h s hs hsl
 have l1:=put1_len h s
 obtain⟨d1,d2,d3⟩:=dobj_len m s
 obtain⟨f1,f2,f3,f4,f5,f6,f7,f8,f9⟩:=inv_fieldOf h1 nm hn hnl
 have l2:=put2_len (m:=(Mk.fieldOf (Mk.put1 m s) nm).2) (a:=m.b.length) (k:=(Mk.fieldOf (Mk.put1 m s) nm).1) (by omega) f2
 refine⟨inv_put2 f1 (by omega) f2,?_,?_,?_,?_,?_,?_,?_⟩
 ·show _≤(Mk.put2 _ _ _).b.length;omega
 ·show(Mk.put2 _ _ _).b.length≤_;omega
 ·exact f5
 ·exact f6
 ·exact f7
 ·exact f8
 ·exact f9
end Nb
namespace Nc
open Bytes8 Ob Ga Ma Mb Mc Mf Mg Yd Na Nb
theorem roomN_bd (k:Nat):4≤roomN k∧roomN k≤256:=by
 unfold roomN
 by_cases h:k>6
 ·rw[if_pos h];decide
 ·rw[if_neg h]
  have:1≤2^k:=Nat.one_le_two_pow
  omega
theorem rooms_zero:rooms 0=0:=rfl
theorem rooms_le (k:Nat):rooms k≤256*k:=by
 induction k with
 |zero=>rw[rooms_zero];omega
 |succ k ih=>rw[rooms_succ];have:=(roomN_bd k).2;omega
theorem rooms_ge (k:Nat):4*k≤rooms k:=by
 induction k with
 |zero=>omega
 |succ k ih=>rw[rooms_succ];have:=(roomN_bd k).1;omega
theorem rooms_mono {a b:Nat}(h:a≤b):rooms a≤rooms b:=by
 induction h with
 |refl=>exact yR _
 |step _ ih=>rw[rooms_succ];omega
def aobj (k:Nat):List Int:=objB 6 (arrB 0 (List.replicate (roomN k) 0))
theorem aobj_len (k:Nat):(aobj k).length=24+8*roomN k:=by
 unfold aobj arrB
 rw[objB_len,List.length_append,nums_len,nums_len,List.length_replicate]
 have e:padN (8* [(0:Int)].length+8*roomN k)=0:=by unfold padN;simp only[List.length_cons,List.length_nil];omega
 rw[e]
 simp only[List.length_cons,List.length_nil]
 omega
def Mk.linkNew (m:Mk)(arr:List Nat)(fr item:Nat):Mk:=
 {m.object (aobj arr.length)with
  h:=setN (m.object (aobj arr.length)).h 18 (m.h.N 18+1)
  b:=put8 (put8 (m.b++aobj arr.length) (if arr=[]then fr else arr.getLastD 0+16) m.b.length) (m.b.length+24) item}
def Mk.linkOld (m:Mk)(arr:List Nat)(n item:Nat):Mk:={m with b:=put8 m.b (arr.getLastD 0+24+8*(n-rooms (arr.length-1))) item}
def Mk.link (m:Mk)(arr:List Nat)(n fr item:Nat):Mk×List Nat×Nat:=
 if n=rooms arr.length then(Mk.linkNew m arr fr item,arr++ [m.b.length],1)else(Mk.linkOld m arr n item,arr,n-rooms (arr.length-1)+1)
theorem getLastD_mem {arr:List Nat}(h:arr≠ []):arr.getLastD 0=arr[arr.length-1]'(by have:=List.length_pos_iff.2 h;omega):=by
 rw[List.getLastD_eq_getLast?,List.getLast?_eq_getElem?,List.getElem?_eq_getElem (by have:=List.length_pos_iff.2 h;omega)]
 rfl
theorem chain_last {L:Nat}{arr:List Nat}{n:Nat}(h:Chain L arr n)(hne:arr≠ []):arr.getLastD 0+24+8*roomN (arr.length-1)≤L:=by
 rw[getLastD_mem hne];exact h.fits _ _
theorem chain_ne {L:Nat}{arr:List Nat}{n:Nat}(h:Chain L arr n)(hn:n≠rooms arr.length):arr≠ []:=by
 intro e
 subst e
 have:=h.le
 exact hn (by rw[show rooms ([]:List Nat).length=0 from rfl]at this⊢;omega)
theorem chain_old {L:Nat}{arr:List Nat}{n:Nat}(h:Chain L arr n)(hn:n≠rooms arr.length):rooms (arr.length-1)≤n∧n-rooms (arr.length-1)<roomN (arr.length-1):=by
 have hp:=List.length_pos_iff.2 (chain_ne h hn)
 have h1:=h.ge hp
 have h2:=h.le
 have h3:=rooms_succ (arr.length-1)
 rw[show arr.length-1+1=arr.length by omega]at h3
 omega
theorem linkNew_len {m:Mk}{arr:List Nat}{n fr item:Nat}(h:Chain m.b.length arr n)(hf:fr+8≤m.b.length):(Mk.linkNew m arr fr item).b.length=m.b.length+(24+8*roomN arr.length):=by
 have ha:=aobj_len arr.length
 have hr:=roomN_bd arr.length
 show(put8 (put8 (m.b++aobj arr.length) _ _) _ _).length=_
 have h1:(if arr=[]then fr else arr.getLastD 0+16)+8≤(m.b++aobj arr.length).length:=by
  rw[List.length_append,ha]
  split
  ·omega
  ·next hne=>have:=chain_last h hne;omega
 rw[put8_len _ _ _ (by rw[put8_len _ _ _ h1,List.length_append,ha];omega),put8_len _ _ _ h1,List.length_append,ha]
theorem linkOld_len {m:Mk}{arr:List Nat}{n item:Nat}(h:Chain m.b.length arr n)(hn:n≠rooms arr.length):(Mk.linkOld m arr n item).b.length=m.b.length:=by
 have h1:=chain_last h (chain_ne h hn)
 have h2:=chain_old h hn
 exact put8_len _ _ _ (by omega)
theorem chain_new {L L' at_:Nat}{arr:List Nat}{n:Nat}(h:Chain L arr n)(hL:L≤L')(hn:n=rooms arr.length)(ha:at_+24+8*roomN arr.length≤L'):Chain L' (arr++ [at_]) (n+1):=by
 have hr:=roomN_bd arr.length
 refine⟨?_,fun _=>?_,fun i hi=>?_⟩
 ·rw[List.length_append,List.length_singleton,rooms_succ];omega
 ·rw[List.length_append,List.length_singleton,Nat.add_sub_cancel];omega
 ·rw[List.length_append,List.length_singleton]at hi
  rcases Nat.lt_or_ge i arr.length with h1|h1
  ·rw[List.getElem_append_left h1]
   have:=h.fits i h1
   omega
  ·rw[List.getElem_append_right h1]
   obtain rfl:i=arr.length:=by omega
   simpa using ha
theorem chain_more {L:Nat}{arr:List Nat}{n:Nat}(h:Chain L arr n)(hn:n≠rooms arr.length):Chain L arr (n+1):=
 ⟨by have:=h.le;omega,fun hp=>by have:=h.ge hp;omega,h.fits⟩
theorem inv_grow {m m':Mk}(h:Inv m)(hC:m'.C=m.C)(hL:m.b.length≤m'.b.length)(h8:m'.b.length%8=0)(hd:m'.datas=m.datas)(hf:m'.fields=m.fields)(hm:m'.main=m.main)(hdp:m'.depth=m.depth)
 (hN: ∀i,i=2∨i=4∨i=8∨i=15∨i=16∨i=19→m'.h.N i=m.h.N i)(h7:0≤m'.h.N 7∧m'.h.N 7≤m'.b.length)(h18:0≤m'.h.N 18∧m'.h.N 18≤m'.b.length):Inv m':=
 {F:=by rw[hC];exact h.F
  ds:=by rw[hC];exact h.ds
  fs:=by rw[hC];exact h.fs
  n2:=by rw[hN 2 (by simp)];exact h.n2
  n4:=by rw[hN 4 (by simp),show Mk.tf m'=Mk.tf m by unfold Mk.tf;rw[hC]];exact h.n4
  len:=by rw[hC];exact Nat.le_trans h.len hL
  l8:=h8
  dat:=fun k hk=>by
   rw[hd]at hk
   obtain⟨a,b,c,d,e⟩:=h.dat k hk
   exact⟨by omega,b,c,d.mono hL,by omega⟩
  fld:=fun k hk=>by
   rw[hf]at hk
   obtain⟨a,b⟩:=h.fld k hk
   exact⟨by omega,b⟩
  mn:=by
   obtain⟨n,h1,h2,h3⟩:=h.mn
   exact⟨n,by rw[hN 8 (by simp),h1],by rw[hm];exact h2.mono hL,by omega⟩
  n7:=h7
  n15:=by rw[hN 15 (by simp)];have:=h.n15;omega
  n16:=by rw[hN 16 (by simp)];have:=h.n16;omega
  n18:=h18
  n19:=by rw[hN 19 (by simp)];have:=h.n19;omega
  dep:=by rw[hdp];exact Nat.le_trans h.dep hL
  dn:=by rw[hd];exact Nat.le_trans h.dn hL
  fn:=by rw[hf];exact Nat.le_trans h.fn hL}
theorem inv_object {m:Mk}(h:Inv m)(l:List Int)(hl:l.length%8=0)(h0:0<l.length):Inv (m.object l):=by
 have e:=object_len m l
 have:=h.l8
 refine inv_grow h rfl (by omega) (by omega) rfl rfl rfl rfl ?_ ?_ ?_
 ·rintro i (rfl|rfl|rfl|rfl|rfl|rfl)<;>rfl
 ·have:=h.n7
  show 0≤m.h.N 7+1∧m.h.N 7+1≤_
  omega
 ·have:=h.n18
  show 0≤m.h.N 18∧m.h.N 18≤_
  omega
theorem inv_link {m:Mk}(h:Inv m){arr:List Nat}{n fr:Nat}(item:Nat)(hc:Chain m.b.length arr n)(hf:fr+8≤m.b.length):
 Inv (Mk.link m arr n fr item).1∧Chain (Mk.link m arr n fr item).1.b.length (Mk.link m arr n fr item).2.1 (n+1)∧m.b.length≤(Mk.link m arr n fr item).1.b.length∧(Mk.link m arr n fr item).1.b.length≤m.b.length+2100∧
 (Mk.link m arr n fr item).1.datas=m.datas∧(Mk.link m arr n fr item).1.fields=m.fields∧(Mk.link m arr n fr item).1.main=m.main∧(Mk.link m arr n fr item).1.C=m.C∧(Mk.link m arr n fr item).1.depth=m.depth∧(∀i,i≠6→i≠7→i≠18→(Mk.link m arr n fr item).1.h.N i=m.h.N i)∧(Mk.link m arr n fr item).1.h.st=m.h.st∧(Mk.link m arr n fr item).2.2≤256:=by
 unfold Mk.link
 by_cases e:n=rooms arr.length
 ·simp only[if_pos e]
  have hL:=linkNew_len (item:=item) hc hf
  have hr:=roomN_bd arr.length
  have hx:=inv_object h (aobj arr.length) (by rw[aobj_len];omega) (by rw[aobj_len];omega)
  have hxl:=object_len m (aobj arr.length)
  rw[aobj_len]at hxl
  refine⟨?_,?_,by omega,by omega,rfl,rfl,rfl,rfl,rfl,?_,rfl,by decide⟩
  ·have:=h.l8
   refine inv_grow h rfl (by omega) (by omega) rfl rfl rfl rfl ?_ ?_ ?_
   ·rintro i (rfl|rfl|rfl|rfl|rfl|rfl)<;>rfl
   ·have:=h.n7
    show 0≤m.h.N 7+1∧m.h.N 7+1≤_
    omega
   ·have:=h.n18
    show 0≤m.h.N 18+1∧m.h.N 18+1≤_
    omega
  ·exact chain_new hc (by omega) e (by omega)
  ·intro i h6 h7 h18
   show(setN (setN (setN m.h 6 _) 7 _) 18 _).N i=_
   rw[setN_ne _ _ _ _ h18,setN_ne _ _ _ _ h7,setN_ne _ _ _ _ h6]
 ·simp only[if_neg e]
  have hL:=linkOld_len (item:=item) hc e
  have h2:=chain_old hc e
  have hr:=roomN_bd (arr.length-1)
  exact⟨inv_bytes h hL,by rw[hL];exact chain_more hc e,by omega,by omega,rfl,rfl,rfl,rfl,rfl,fun _ _ _ _=>rfl,rfl,by omega⟩
end Nc
namespace Mh
open Bytes8 Blk8 Own8 OwnM OwnE Od Ga Ma Kf Mb Mc Md Mf Gb Ge
open Gq (rcells_info rcells_len rzeros_size)
open Gp (cells_set)
theorem head_range {w:World}{g:Nat}{T:TypeId}{m:Mk}{S:Sl}(hb:Blk w g (Mk.cells m S) T):w.rangeAt g 52 (m.h.cells 20):=fun j v hj=>by
 have hl:j<90:=by
  have:=(List.getElem?_eq_some_iff.1 hj).1
  rw[HD.len]at this
  omega
 have h2:=hb.cell (Mk.get m S (52+j) (by omega))
 unfold Mk.at_ at h2
 rw[if_pos (by omega),if_neg (by omega),show 52+j-52=j by omega]at h2
 rw[m.h.get 20 j (by omega)]at hj
 injection hj with hj
 subst hj
 exact h2
theorem set_st (h:HD)(m:Nat)(v:Int):(h.cells m).set 2 (.int .i64 v)=({h with st:=v}:HD).cells m:=by
 refine cells_set _ _ m _ _ (by omega) ?_ (fun i hi hne=>?_)
 ·unfold HD.at_
  rfl
 ·unfold HD.at_
  repeat' split
  all_goals first|rfl|(exfalso;omega)
theorem set_n1 (h:HD)(v:Int):(h.cells 20).set 68 (.int .u64 v)=(setN h 1 v).cells 20:=by
 refine cells_set _ _ 20 _ _ (by omega) rfl (fun i hi hne=>?_)
 unfold HD.at_
 simp only[setN]
 repeat' split
 all_goals first|rfl|(exfalso;omega)
attribute [local irreducible] Mk.cells HD.cells wpList Code.wp
theorem tail_any (B g bb cb:Nat)(S:Sl)(m:Mk)(w:World)(h:MkB w B g bb cb S m):
 Calls Tryz.prog 79 #[.pointer (some ⟨g,0,none⟩)] w fun e w'=>e= .returned (.int .u64 (m.h.N 9))∧w=w':=by
 have c:=h.st.cell (Mk.get_Nk _ _ 9 128 (by decide) rfl)
 go_enter Tryz.func79,Tryz.ntmps79
 go_wp2
 go_ret
 exact⟨rfl,rfl⟩
def Mk.head (m:Mk)(st:Int):HD:=setN {m.h with st:=st} 1 ((m.b.length:Int)-272)
theorem image_any (B g bb cb:Nat)(S:Sl)(m:Mk)(st:Int)(w:World)(h:MkB w B g bb cb S m)(hb:272≤m.b.length∧m.b.length≤1000000)(ok:(Mk.head m st).Ok 20)(hdp:m.depth≤1000000):
 Calls Tryz.prog 28 #[.pointer (some ⟨g,0,none⟩),.int .i64 st] w (Owned ((HD.plus (Mk.head m st) (m.depth:Int)).bytes 21++m.b.drop 272) m.b.length w):=by
 obtain⟨hb0,hb1⟩:=hb
 have hgl:=h.st.lt
 have HR:=yH (head_range h.st)
 have hcap:=(own_cap h.own).1
 have HM:=yH h
 generalize hN:m.b.length=n at*
 have HN:=yH hN
 clear hN
 have HC:=yH fun(W:World) (hW:Below w.heap.size w W) (hR:Blk W w.heap.size ((Mk.head m st).cells 20) 119)=>show W.rangeAt w.heap.size 0 ((Mk.head m st).cells 20)∧W.cell? ⟨g,142,none⟩=some (.int .u64 (m.depth:Int))∧W.cell? ⟨g,143,none⟩=some (.slice (some ⟨bb,0,none⟩) n cb)from
  ⟨fun j v hj=>by rw[Nat.zero_add];exact hR.cell hj,(MkB.below HM.out hW).st.cell (Mk.get_depth _ _),HN.out▸(MkB.below HM.out hW).st.cell (Mk.get_b _ _)⟩
 have HD4:=yH fun(W:World) (hW:Below w.heap.size w W)=>show Bytes W (cutA (some ⟨bb,0,none⟩) cb 272) (m.b.drop 272)from by
  have:=Bytes.cut (MkB.below HM.out hW).own.bytes cb 272 (n-272) (by rw[HN.out];exact hcap)
  rw[List.take_of_length_le (by rw[List.length_drop,HN.out];exact yR _)]at this
  exact this
 have hcut: ∀W:World,(Instr.slice 24 (.slice (some ⟨bb,0,none⟩) n cb) (some (.int .i64 272)) none none).run Tryz.prog W= .ok (.slice (cutA (some ⟨bb,0,none⟩) cb 272) (n-272) (cb-272)) W:=fun W=>cut_l (some ⟨bb,0,none⟩) n cb 272 hb0 W
 have b1:=yH ((Below.refl w.heap.size w).alloc (yR _) (.cells Tryz.zeroCells119 119))
 have Z1:=yH (heap_alloc_new w (.cells Tryz.zeroCells119 119))
 have B1:=yH (below_setRow b1.out (yR _) (m.h.cells 20).toArray)
 have R1:=yH (show Blk ((w.alloc (.cells Tryz.zeroCells119 119)).setRow w.heap.size (m.h.cells 20).toArray) w.heap.size (m.h.cells 20) 119 from setRow_heap _ w.heap.size _ _ 119 (0,0) Z1.out)
 clear h
 go_enter Tryz.func28,Tryz.ntmps28
 go_upto_region 2 with(first
  |((with_reducible apply at_slot 9);refine wpList_load_mid rfl 119 (.tmp 8) rfl g 52 rfl (m.h.cells 20) _ HR.out Tryz.underlying119 rfl (rcells_len _) ?_)
  |((with_reducible apply at_store (.tmp 5) (.tmp 9));refine wpList_store_row rfl 119 (.tmp 5) (.tmp 9) rfl w.heap.size (m.h.cells 20).toArray rfl rfl 119 Tryz.zeroCells119 Z1.out (rcells_info _) rzeros_size (HD.one _ 20) ?_)
  |fail)
 generalize (w.alloc (.cells Tryz.zeroCells119 119)).setRow w.heap.size (m.h.cells 20).toArray=w1 at*
 have r2:=R1.out.cell (m.h.get 20 2 (by decide))
 have z2:=R1.out.frozen 2
 have R2:=yH (R1.out.set_ 2 (.int .i64 st))
 have r68:=R2.out.cell (i:=68) ((List.getElem?_set_ne (by decide)).trans (m.h.get_N 20 1 (by decide)))
 have z68:=R2.out.frozen 68
 have B2:=yH (B1.out.setCell (p:=⟨w.heap.size,2,none⟩) (yR _) (.int .i64 st))
 have y143:(w1.setCell ⟨w.heap.size,2,none⟩ (.int .i64 st)).cell? ⟨g,143,none⟩=some (.slice (some ⟨bb,0,none⟩) n cb):=HN.out▸(MkB.below HM.out B2.out).st.cell (Mk.get_b _ _)
 go_upto_region 4 with fail
 have R3:=R2.out.set_ 68 (.int .u64 ((n:Int)-272))
 rw[set_st,set_n1]at R3
 have B3:=yH (B2.out.setCell (p:=⟨w.heap.size,68,none⟩) (yR _) (.int .u64 ((n:Int)-272)))
 have R3:=yH (show Blk _ w.heap.size ((Mk.head m st).cells 20) 119 from by unfold Mk.head;rw[HN.out];exact R3)
 generalize (w1.setCell ⟨w.heap.size,2,none⟩ (.int .i64 st)).setCell ⟨w.heap.size,68,none⟩ (.int .u64 ((n:Int)-272))=w3 at*
 have hd:0≤(m.depth:Int)∧(m.depth:Int)≤18446744073709551615:=⟨by omega,by omega⟩
 refine wp_region_noPanic ?_
 refine wp_region_held_drew (S:=fun W:World=>W.rangeAt w.heap.size 0 ((Mk.head m st).cells 20)∧W.cell? ⟨g,142,none⟩=some (.int .u64 (m.depth:Int))∧W.cell? ⟨g,143,none⟩=some (.slice (some ⟨bb,0,none⟩) n cb)) (by kernel_rfl) (by exact HC.out _ B3.out.drew R3.out) (fun hHeld=>?_)
 refine tk (i:=0) (oi:=⟨some 21,_,_,_,_,_⟩) rfl (yieldsIf_load_mid (by rfl) _ _ rfl _ _ rfl _ _ (fun _ h=>h.1) Tryz.underlying119 rfl (rcells_len _)) ?_
 try simp only[Act.put,sA,sZ,sS]
 refine tk (i:=1) (oi:=⟨some 22,_,_,_,_,_⟩) (v:=?_) rfl (Or.inl ⟨by rfl,?_⟩) ?_
 rotate_left
 ·intro W hSw;go_simp;try (with_reducible rfl)
 try simp only[Act.put,sA,sZ,sS]
 refine tk (i:=2) (oi:=⟨some 23,_,_,_,_,_⟩) (v:=?_) rfl (Or.inl ⟨by rfl,?_⟩) ?_
 rotate_left
 ·intro W hSw;go_simp;try (with_reducible rfl)
 try simp only[Act.put,sA,sZ,sS]
 refine tk (i:=3) (oi:=⟨some 24,_,_,_,_,_⟩) (v:=?_) rfl (Or.inl ⟨by rfl,?_⟩) ?_
 rotate_left
 ·intro W hSw;go_simp;try (with_reducible rfl)
 try simp only[Act.put,sA,sZ,sS]
 refine tk (i:=4) (oi:=⟨some 25,_,_,_,_,_⟩) (v:=?_) rfl (Or.inl ⟨by rfl,?_⟩) ?_
 rotate_left
 ·intro W hSw;have hSx:=hSw.2.1;go_simp;try (with_reducible rfl)
 try simp only[Act.put,sA,sZ,sS]
 refine tk (i:=6) (oi:=⟨some 27,_,_,_,_,_⟩) (v:=?_) rfl (Or.inl ⟨by rfl,?_⟩) ?_
 rotate_left
 ·intro W hSw;go_simp;try (with_reducible rfl)
 try simp only[Act.put,sA,sZ,sS]
 refine tk (i:=7) (oi:=⟨some 28,_,_,_,_,_⟩) (v:=?_) rfl (Or.inl ⟨by rfl,?_⟩) ?_
 rotate_left
 ·intro W hSw;go_simp;try (with_reducible rfl)
 try simp only[Act.put,sA,sZ,sS]
 refine tk (i:=8) (oi:=⟨some 29,_,_,_,_,_⟩) (v:=?_) rfl (Or.inl ⟨by rfl,?_⟩) ?_
 rotate_left
 ·intro W hSw;go_simp;try (with_reducible rfl)
 try simp only[Act.put,sA,sZ,sS]
 refine tk (i:=9) (oi:=⟨some 30,_,_,_,_,_⟩) (v:=?_) rfl (Or.inl ⟨by rfl,?_⟩) ?_
 rotate_left
 ·intro W hSw;have hSx:=hSw.2.2;go_simp;try (with_reducible rfl)
 try simp only[Act.put,sA,sZ,sS]
 refine tk (i:=10) (oi:=⟨some 31,_,_,_,_,_⟩) (v:=?_) rfl (Or.inl ⟨by rfl,?_⟩) ?_
 rotate_left
 ·intro W hSw;go_simp;try (with_reducible rfl)
 try simp only[Act.put,sA,sZ,sS]
 refine wpAnyH_ready (rs:=[5]) (by kernel_rfl) (by simp) ?_
 refine AllReadyH.cons (o:=⟨some 26,_,_,_,_,_⟩) rfl (fun K hK=>?_) AllReadyH.nil
 go_simp
 (refine(rbytes_any (Mk.head m st) ok (m.depth:Int) hd _).mono ?_);rintro e w4 ⟨A4,c4,rfl,ho4,hb4⟩;have HO4:=yH ho4;have B4:=yH (B3.out.trans (((Below.refl w3.heap.size w3).drew.trans hb4).mono B3.out.size));have R4:=yH (R3.out.below ((Below.refl w3.heap.size w3).drew.trans hb4) R3.out.lt);clear ho4 hb4
 try go_wp2_with fail
 refine hK.out _ _ (by exact HC.out _ B4.out R4.out) (fun hHeld=>?_)
 clear hK K
 try simp only[Act.put,sA,sZ,sS]
 refine wpAnyH_ready (rs:=[11]) (by kernel_rfl) (by simp) ?_
 refine AllReadyH.cons (o:=⟨some 32,_,_,_,_,_⟩) rfl (fun K hK=>?_) AllReadyH.nil
 refine step_append_bytes (o:=⟨some 32,_,_,_,_,_⟩) rfl (.tmp 26) (.tmp 31) rfl w3.heap.size A4 272 c4 _ rfl HO4.out (cutA (some ⟨bb,0,none⟩) cb 272) (n-272) (cb-272) (m.b.drop 272) rfl (HD4.out _ B4.out) (by rw[List.length_drop,HN.out]) (by omega) ?_
 intro A5 c5 w5 ho5 hb5
 have HO5:=yH ho5
 have B5:=yH (B4.out.trans (hb5.mono B3.out.size))
 have R5:=yH (R4.out.below hb5 R3.out.lt)
 clear ho5 hb5
 refine hK.out _ _ (by exact HC.out _ B5.out R5.out) (fun hHeld=>?_)
 clear hK K
 try simp only[Act.put,sA,sZ,sS]
 refine tk (i:=12) (oi:=⟨some 4,_,_,_,_,_⟩) (v:=?_) rfl (Or.inl ⟨by rfl,?_⟩) ?_
 rotate_left
 ·intro W hSw;go_simp;try (with_reducible rfl)
 try simp only[Act.put,sA,sZ,sS]
 refine wpAnyH_done (by kernel_rfl) ?_ _
 refine NoPanic.normal ?_
 go_wp2
 go_ret
 have e9:272+(n-272)=n:=by omega
 have ho:=HO5.out
 rw[e9]at ho
 exact⟨A5,c5,rfl,Own.base ho B3.out.size,B5.out⟩
end Mh
namespace Nd
open Bytes8 Blk8 Own8 OwnA OwnE Od Ga Ma Kf Mb Mc Md Mf Mg Fa Fb Dc Na Nc
structure Path (g:Nat)(p:Pl)(w:World)(p':Pl)(w':World):Prop where
 foot: ∀k,p'.foot g k→p.foot g k∨w.heap.size≤k
 kept:KeptF (p.foot g) w w'
theorem Path.refl (g:Nat)(p:Pl)(w:World):Path g p w p w:=⟨fun _ h=> .inl h,KeptF.refl _ _⟩
theorem Path.trans {g:Nat}{p p1 p2:Pl}{w w1 w2:World}(h:Path g p w p1 w1)(k:Path g p1 w1 p2 w2):Path g p w p2 w2:=
 ⟨fun i hi=>(k.foot i hi).elim (h.foot i) (fun h1=> .inr (Nat.le_trans h.kept.size h1)),h.kept.trans k.kept fun i hi hF=>(h.foot i hF).elim id (fun h1=>absurd hi (by omega))⟩
theorem Path.below {g:Nat}{p p1:Pl}{w w1 w2:World}(h:Path g p w p1 w1)(hb:Below w1.heap.size w1 w2):Path g p w p1 w2:=⟨h.foot,h.kept.trans (KeptF.of_below (F:=None') hb) fun _ _ h=>h.elim⟩
theorem Path.of_below {g:Nat}{p:Pl}{w w2:World}(hb:Below w.heap.size w w2):Path g p w p w2:=(Path.refl g p w).below hb
theorem Path.base {g B:Nat}{p p':Pl}{w w':World}(h:Path g p w p' w')(hB:B≤w.heap.size)(hp: ∀k,p.foot g k→B≤k):Below B w w':=h.kept.below hB hp
theorem Path.set {g:Nat}{p p1:Pl}{w w1:World}(h:Path g p w p1 w1)(i:Nat)(v:Value):Path g p w p1 (w1.setCell ⟨g,i,none⟩ v):=⟨h.foot,h.kept.setCell (p:=⟨g,i,none⟩) (fun _=>Or.inl rfl) v⟩
theorem Path.drew {g:Nat}{p p1:Pl}{w w1:World}(h:Path g p w p1 w1):Path g p w p1 w1.drew:=⟨h.foot,h.kept.drew⟩
theorem Path.put8 {g:Nat}{p:Pl}{w w1:World}(h:Put8 p.bb w w1):Path g p w p w1:=⟨fun _ h=> .inl h,h.kept.mono fun i hi=> .inr (.inl hi)⟩
variable {w w' : World} {B g : Nat} {p p' : Pl} {m m' : Mk}
theorem At.drew (h:At w B g p m):At w.drew B g p m:=h.below (Below.refl _ _).drew
theorem At.cb (h:At w B g p m):w.cell? ⟨g,143,none⟩=some (.slice (some ⟨p.bb,0,none⟩) m.b.length p.cb):=h.st.st.cell (Mk.get_b _ _)
theorem At.cd (h:At w B g p m):w.cell? ⟨g,144,none⟩=some (.slice p.D p.nd p.cd):=h.st.st.cell (Mk.get_d _ _)
theorem At.cf (h:At w B g p m):w.cell? ⟨g,145,none⟩=some (.slice p.F p.nf p.cf):=h.st.st.cell (Mk.get_f _ _)
theorem At.cm (h:At w B g p m):w.cell? ⟨g,146,none⟩=some p.M:=h.st.st.cell (Mk.get_m _ _)
theorem At.cN (h:At w B g p m)(i k:Nat)(hi:i<20)(hk:k=119+i):w.cell? ⟨g,k,none⟩=some (.int .u64 (m.h.N i)):=h.st.st.cell (Mk.get_Nk _ _ i k hi hk)
theorem At.fz (h:At w B g p m)(i:Nat):w.frozen? ⟨g,i,none⟩=false:=h.st.st.frozen i
theorem At.struct {S':Nat}{v:Value}(h:At w B g p m)(i:Nat)(v:Value)(st:MkB (w.setCell ⟨g,i,none⟩ v) B g p.bb p.cb p.S m')(hd:m.datas=m'.datas)(hf:m.fields=m'.fields)(hm:m.main=m'.main):At (w.setCell ⟨g,i,none⟩ v) B g p m':=
 h.turn ((KeptF.refl _ w).setCell (p:=⟨g,i,none⟩) (fun _=>Or.inl rfl) v) (fun _ h=> .inl h) st
  (OwnE.keptF h.dr (KeptF.set1 w g i v) fun j hj e=>(h.dg j hj).1 e) (OwnE.keptF h.fr (KeptF.set1 w g i v) fun j hj e=>(h.fg j hj).1 e)
  (h.dm.trans hd) (h.fm.trans hf) (fun q hq=> .inl hq) (.inl ⟨rfl,hm.symm⟩) h.dg h.fg h.df (fun q hq=> .inl hq)
theorem At.setN (h:At w B g p m)(i k:Nat)(hi:i<20)(hk:k=119+i)(v:Int):At (w.setCell ⟨g,k,none⟩ (.int .u64 v)) B g p {m with h:=Ma.setN m.h i v}:=
 At.struct (S':=0) (v:= .bool true) h k _ (MkB.setN h.st i k hi hk v) rfl rfl rfl
theorem At.same (h:At w B g p m)(h1:m.C=m'.C)(h2:m.h=m'.h)(h3:m.depth=m'.depth)(h4:m.b=m'.b)(h5:m.datas=m'.datas)(h6:m.fields=m'.fields)(h7:m.main=m'.main):At w B g p m':=
 {st:=MkB.same h.st h1 h2 h3 h4,dr:=h.dr,fr:=h.fr,dm:=h.dm.trans h5,fm:=h.fm.trans h6,da:=h.da,ma:=h7▸h.ma,dg:=h.dg,fg:=h.fg,df:=h.df,gB:=h.gB,fo:=h.fo}
theorem At.put8 (h:At w B g p m){l:List Int}(hl:l.length=m.b.length)(ho:Own w' B (some ⟨p.bb,0,none⟩) m.b.length p.cb l)(hp:Put8 p.bb w w'):At w' B g p {m with b:=l}:=
 h.turn (hp.kept.mono fun i hi=> .inr (.inl hi)) (fun _ h=> .inl h) (h.st.put hl ho hp) (OwnE.keptF h.dr hp.kept fun j hj e=>(h.dg j hj).2 e) (OwnE.keptF h.fr hp.kept fun j hj e=>(h.fg j hj).2 e) h.dm h.fm (fun q hq=> .inl hq) (.inl ⟨rfl,rfl⟩) h.dg h.fg h.df (fun q hq=> .inl hq)
theorem putS_any (a:Nat)(z:Int)(hz:z=(a:Int))(v:Int)(w:World)(h:At w B g p m)(ha:a+8≤m.b.length)(hn:m.b.length≤4000000):
 Calls Tryz.prog 104 #[.pointer (some ⟨g,0,none⟩),.int .u64 z,.int .u64 v] w fun e w'=>e= .returned (.tuple #[])∧At w' B g p {m with b:=Ma.put8 m.b a v}∧Path g p w p w':=
 (put_at g p.bb p.cb m.b.length a z hz _ _ m.b v B w h.st.st (Mk.get_b _ _) h.st.own h.st.ne ha hn).mono fun e w' ⟨h1,h2,h3⟩=>⟨h1,At.put8 h (put8_len _ _ _ ha) h2 h3,Path.put8 h3⟩
def Moved (B g:Nat)(p:Pl)(m:Mk)(w w':World):Prop:= ∃bb' cb',At w' B g {p with bb:=bb',cb:=cb'} m∧Path g p w {p with bb:=bb',cb:=cb'} w'
theorem objectS_any (A2:Option Addr)(k c2:Nat)(ys:List Int)(w:World)(h:At w B g p m)(hb:Bytes w A2 ys)(hk:ys.length=k)(h0:0<m.b.length)(hn:m.b.length+k≤4000000)(h7:0≤m.h.N 7∧m.h.N 7≤1000000):
 Calls Tryz.prog 100 #[.pointer (some ⟨g,0,none⟩),.slice A2 k c2] w fun e w'=>e= .returned (.int .u64 (m.b.length:Nat))∧Moved B g p (m.object ys) w w':=
 (object_any B g p.bb p.cb p.S m A2 k c2 ys w h.st hb hk h0 hn h7 h.gB).mono fun e w' ⟨h1,b',c',h2,h3,h4⟩=>by
   have hkf:KeptF (p.foot g) w w':=h4.mono fun i hi=>hi.elim Or.inl (fun e=> .inr (.inl e))
   have hfoot: ∀k,Pl.foot {p with bb:=b',cb:=c'} g k→p.foot g k∨w.heap.size≤k:=by
    rintro k (e|e|e|e)
    ·exact .inl (.inl e)
    ·rcases h3 with h3|h3
     ·exact .inl (.inr (.inl (e.trans h3)))
     ·exact .inr (by rw[show k=b' from e];exact h3)
    ·exact .inl (.inr (.inr (.inl e)))
    ·exact .inl (.inr (.inr (.inr e)))
   have hD: ∀k,ownB p.D=some k→k≠b':=fun k hk e=>by
    rcases h3 with h3|h3
    ·exact(h.dg k hk).2 (e.trans h3)
    ·have:=(OwnE.ltB h.dr k hk).2;omega
   have hF: ∀k,ownB p.F=some k→k≠b':=fun k hk e=>by
    rcases h3 with h3|h3
    ·exact(h.fg k hk).2 (e.trans h3)
    ·have:=(OwnE.ltB h.fr k hk).2;omega
   exact⟨h1,b',c',h.turn hkf hfoot h2 (OwnE.keptF h.dr h4 fun j hj e=>e.elim (h.dg j hj).1 (h.dg j hj).2) (OwnE.keptF h.fr h4 fun j hj e=>e.elim (h.fg j hj).1 (h.fg j hj).2) h.dm h.fm (fun q hq=> .inl hq) (.inl ⟨rfl,rfl⟩) (fun k hk=>⟨(h.dg k hk).1,hD k hk⟩) (fun k hk=>⟨(h.fg k hk).1,hF k hk⟩) h.df (fun q hq=> .inl hq),hfoot,hkf⟩
def Stp (B g:Nat)(p:Pl)(m:Mk)(w w':World):Prop:= ∃p',At w' B g p' m∧Path g p w p' w'
def StpD (B g:Nat)(p:Pl)(m:Mk)(w w':World):Prop:= ∃p',At w' B g p' m∧Path g p w p' w'∧(∀x∈p'.dl,x∈p.dl∨(x.2= .slice none 0 0∧x.1.arrays=[]))∧p'.M=p.M
theorem look_find {l:List (Kn×Value)}{ks:List Kn}(e:l.map Prod.fst=ks)(s:List Int):findK ks s=(Mg.look l s).map Prod.fst:=by
 subst e
 unfold findK Mg.look
 rw[List.find?_map]
 rfl
theorem fieldS_any (s:List Int)(w:World)(h:At w B g p m)(I:Inv m)(hs:AllB s)(hsl:s.length≤64)(hb:m.b.length≤90000):
 Calls Tryz.prog 149 #[.pointer (some ⟨g,0,none⟩),.string (T s)] w fun e w'=>e= .returned (.int .u64 ((Mk.fieldOf m s).1:Nat))∧ ∃p',At w' B g p' (Mk.fieldOf m s).2∧Path g p w p' w'∧p'.dl=p.dl∧p'.M=p.M:=by
 have hnf:p.nf≤100000:=by
  have h1:=ownK_len h.fr
  have h2:=congrArg List.length h.fm
  rw[List.length_map]at h2
  have:=I.fn
  omega
 have hpos:=I.len
 have txt: ∀q∈p.fl,q.1∈m.fields:=fun q hq=>by rw[←h.fm];exact List.mem_map.2 ⟨q,hq,rfl⟩
 refine(field_any B g p.bb p.cb p.nf p.cf (Mk.tf m) p.S p.F p.fl m s w ⟨h.st,rfl,h.fr,h.fg,fun q hq=>(I.fld _ (txt q hq)).2⟩ hs hnf I.F (by omega) ⟨by omega,by omega⟩ (by have:=I.n7;omega) h.gB (by have:=I.n16;omega) I.fs I.n4 (by unfold Mk.tf;omega) (fun q hq=>by have:=(I.fld _ (txt q hq)).1;omega)).mono ?_
 rintro e w' (⟨k,hk,rfl,rfl⟩|⟨hno,rfl,bb',cb',F',cf',hF,hbb,hFF,hK⟩)
 ·have e:=look_find h.fm s
  rw[hk]at e
  unfold Mk.fieldOf
  rw[e]
  exact⟨rfl,p,h,Path.refl _ _ _,rfl,rfl⟩
 ·have e:=look_find h.fm s
  rw[hno]at e
  unfold Mk.fieldOf
  rw[e]
  have hkf:KeptF (p.foot g) w w':=hK.mono fun i hi=>hi.elim Or.inl (fun e=>e.elim (fun e=> .inr (.inl e)) (fun e=> .inr (.inr (.inr e))))
  have hfoot: ∀k,Pl.foot {p with bb:=bb',cb:=cb',F:=F',nf:=p.nf+1,cf:=cf',fl:=p.fl++ [(⟨s,m.b.length,Mk.fslot m s,0,[]⟩,.slice none 0 0)]} g k→p.foot g k∨w.heap.size≤k:=by
   rintro k (e|e|e|e)
   ·exact .inl (.inl e)
   ·rcases hbb with h3|h3
    ·exact .inl (.inr (.inl (e.trans h3)))
    ·exact .inr (by rw[show k=bb' from e];exact h3)
   ·exact .inl (.inr (.inr (.inl e)))
   ·rcases hFF with h3|⟨j,h3,h4⟩
    ·exact .inl (.inr (.inr (.inr (h3▸e))))
    ·have e:ownB F'=some k:=e
     rw[h3]at e
     injection e with e
     exact .inr (by omega)
  refine⟨rfl,{p with bb:=bb',cb:=cb',F:=F',nf:=p.nf+1,cf:=cf',fl:=p.fl++ [(⟨s,m.b.length,Mk.fslot m s,0,[]⟩,.slice none 0 0)]},?_,⟨hfoot,hkf⟩,rfl,rfl⟩
  have hst:=hF.st
  rw[h.fm]at hst
  refine h.turn hkf hfoot hst (OwnE.keptF h.dr hK ?_) hF.row h.dm ?_ (fun q hq=> .inl hq) (.inl ⟨rfl,rfl⟩) ?_ hF.off ?_ (fun q hq=>(List.mem_append.1 hq).elim Or.inl (fun h=> .inr (by rw[List.mem_singleton.1 h])))
  ·rintro j hj (e|e|e)
   ·exact(h.dg j hj).1 e
   ·exact(h.dg j hj).2 e
   ·exact h.df j hj e
  ·show(p.fl++_).map Prod.fst=m.fields++_
   rw[List.map_append,h.fm]
   rfl
  ·intro k hk
   refine⟨(h.dg k hk).1,fun e=>?_⟩
   rcases hbb with h3|h3
   ·exact(h.dg k hk).2 (e.trans h3)
   ·have:=(OwnE.ltB h.dr k hk).2
    have e:k=bb':=e
    omega
  ·intro k hk e
   rcases hFF with h3|⟨j,h3,h4⟩
   ·exact h.df k hk (h3▸e)
   ·have e:ownB F'=some k:=e
    rw[h3]at e
    injection e with e
    have:=(OwnE.ltB h.dr k hk).2
    omega
theorem pushed_st (h:At w B g p m){o:Obj}{w9:World}(hgr:(w.alloc o).grownBy w9 (ownB p.D)):Blk w9 g (Mk.cells m {p.S with b:= .slice (some ⟨p.bb,0,none⟩) m.b.length p.cb}) 168:=
 (MkB.grown (At.below h ((Below.refl _ _).alloc (yR _) o)).st hgr (fun e=>(h.dg _ e).1 rfl) (fun e=>(h.dg _ e).2 rfl)).st
theorem At.pushD {n:Nat}(h:At w B g p m)(w9:World)(o:Obj)(k:Kn)(vk:Value)(D9:Option Addr)(c9:Nat)(hn:n=p.nd+1)(ho:OwnE 197 5 w9 B D9 n c9 (kf p.dl++knC k vk))(hgr:(w.alloc o).grownBy w9 (ownB p.D))(hat:ownB D9=ownB p.D∨ownB D9=some (w.alloc o).heap.size)(hk:Arr w (p.away B g) vk k.arrays):
 At (w9.setCell ⟨g,144,none⟩ (.slice D9 n c9)) B g {p with D:=D9,nd:=n,cd:=c9,dl:=p.dl++ [(k,vk)]} {m with datas:=m.datas++ [k]}∧Path g p w {p with D:=D9,nd:=n,cd:=c9,dl:=p.dl++ [(k,vk)]} (w9.setCell ⟨g,144,none⟩ (.slice D9 n c9)):=by
 subst hn
 have hb1:Below w.heap.size w (w.alloc o):=(Below.refl _ _).alloc (yR _) o
 have ha:=At.below h hb1
 have hsz:(w.alloc o).heap.size=w.heap.size+1:=by simp
 have hk9:KeptF (p.foot g) w w9:=(KeptF.of_below (F:=p.foot g) hb1).grown hgr (fun k hk _=> .inr (.inr (.inl hk)))
 have hkk:=hk9.setCell (p:=⟨g,144,none⟩) (fun _=>Or.inl rfl) (.slice D9 (p.nd+1) c9)
 have hfoot: ∀k',Pl.foot {p with D:=D9,nd:=p.nd+1,cd:=c9,dl:=p.dl++ [(k,vk)]} g k'→p.foot g k'∨w.heap.size≤k':=by
  rintro k' (e|e|e|e)
  ·exact .inl (.inl e)
  ·exact .inl (.inr (.inl e))
  ·have e:ownB D9=some k':=e
   rcases hat with h3|h3
   ·exact .inl (.inr (.inr (.inl (h3▸e))))
   ·rw[h3]at e
    injection e with e
    exact .inr (by omega)
  ·exact .inl (.inr (.inr (.inr e)))
 have hg:=h.st.st.lt
 have hbb:=(own_lt h.st.own).2
 have hD9: ∀j,ownB D9=some j→j≠g∧j≠p.bb:=fun j hj=>by
  rcases hat with h1|h1
  ·exact h.dg j (h1▸hj)
  ·rw[h1]at hj
   injection hj with hj
   omega
 have hs9:MkB w9 B g p.bb p.cb p.S m:=MkB.grown ha.st hgr (fun e=>(h.dg _ e).1 rfl) (fun e=>(h.dg _ e).2 rfl)
 refine⟨?_,hfoot,hkk⟩
 refine h.turn hkk hfoot ?_ ?_ ?_ ?_ h.fm ?_ (.inl ⟨rfl,rfl⟩) hD9 h.fg ?_ (fun q hq=> .inl hq)
 ·have:=hs9.st.set_ 144 (.slice D9 (p.nd+1) c9)
  rw[Mk.set_d]at this
  have e:=MkB.same (B:=B) (cb:=p.cb) (m:=m) (m':={m with datas:=m.datas++ [k]}) (S:={p.S with d:= .slice D9 (p.nd+1) c9}) ⟨this,own_set1 hs9.own hs9.ne _ _,hs9.ne⟩ rfl rfl rfl rfl
  exact e
 ·unfold OwnK
  rw[kf_snoc]
  exact Mf.OwnE.keptF ho (KeptF.set1 w9 g 144 _) (fun j hj e=>(hD9 j hj).1 e)
 ·refine Mf.OwnE.keptF (OwnE.keptG ha.fr hgr fun j hj e=>h.df j e hj) (KeptF.set1 w9 g 144 _) (fun j hj e=>(h.fg j hj).1 e)
 ·show(p.dl++_).map Prod.fst=m.datas++_
  rw[List.map_append,h.dm]
  rfl
 ·intro q hq
  rcases List.mem_append.1 hq with hq|hq
  ·exact .inl hq
  ·rw[List.mem_singleton.1 hq]
   right
   exact hk.kept hkk (fun _ _ h h2=>h (.inl h2)) fun b hb hf h2=>h2.elim (fun h2=>(hfoot b h2).elim (fun h=>hf (.inl h)) (fun h3=>absurd hb (by omega))) (fun h=>hf (.inr h))
 ·intro j hj e
  rcases hat with h1|h1
  ·exact h.df j (h1▸hj) e
  ·have hj:ownB D9=some j:=hj
   rw[h1]at hj
   injection hj with hj
   have:=(OwnE.ltB h.fr j e).2
   omega
theorem At.allF {n:Nat}(h:At w B g p m)(hF0:ownB p.F=none)(w9:World)(fl:List (Kn×Value))(fs:List Kn)(F9:Option Addr)(c9:Nat)(ho:OwnE 197 5 w9 B F9 n c9 (kf fl))(hgr:w.grownBy w9 none)(hat:ownB F9=none∨ownB F9=some w.heap.size)(hfs:fl.map Prod.fst=fs)(hfo: ∀q∈fl,q.2= .slice none 0 0):
 At (w9.setCell ⟨g,145,none⟩ (.slice F9 n c9)) B g {p with F:=F9,nf:=n,cf:=c9,fl:=fl} {m with fields:=fs}∧Path g p w {p with F:=F9,nf:=n,cf:=c9,fl:=fl} (w9.setCell ⟨g,145,none⟩ (.slice F9 n c9)):=by
 have hk9:KeptF (p.foot g) w w9:=(KeptF.refl (p.foot g) w).grown hgr (fun k hk _=>by cases hk)
 have hkk:=hk9.setCell (p:=⟨g,145,none⟩) (fun _=>Or.inl rfl) (.slice F9 n c9)
 have hg:=h.st.st.lt
 have hbb:=(own_lt h.st.own).2
 have hF9: ∀j,ownB F9=some j→w.heap.size≤j:=fun j hj=>by
  rcases hat with h1|h1
  ·rw[h1]at hj;cases hj
  ·rw[h1]at hj
   injection hj with hj
   omega
 have hfoot: ∀k',Pl.foot {p with F:=F9,nf:=n,cf:=c9,fl:=fl} g k'→p.foot g k'∨w.heap.size≤k':=by
  rintro k' (e|e|e|e)
  ·exact .inl (.inl e)
  ·exact .inl (.inr (.inl e))
  ·exact .inl (.inr (.inr (.inl e)))
  ·exact .inr (hF9 k' e)
 have hs9:MkB w9 B g p.bb p.cb p.S m:=MkB.grown h.st hgr (fun e=>by cases e) (fun e=>by cases e)
 refine⟨?_,hfoot,hkk⟩
 refine h.turn hkk hfoot ?_ ?_ ?_ h.dm hfs (fun q hq=> .inl hq) (.inl ⟨rfl,rfl⟩) h.dg ?_ ?_ (fun q hq=> .inr (hfo q hq))
 ·have:=hs9.st.set_ 145 (.slice F9 n c9)
  rw[Mk.set_f]at this
  have e:=MkB.same (B:=B) (cb:=p.cb) (m:=m) (m':={m with fields:=fs}) (S:={p.S with f:= .slice F9 n c9}) ⟨this,own_set1 hs9.own hs9.ne _ _,hs9.ne⟩ rfl rfl rfl rfl
  exact e
 ·exact Mf.OwnE.keptF (OwnE.keptG h.dr hgr fun j hj e=>by cases e) (KeptF.set1 w9 g 145 _) (fun j hj e=>(h.dg j hj).1 e)
 ·exact Mf.OwnE.keptF ho (KeptF.set1 w9 g 145 _) (fun j hj e=>by have:=hF9 j hj;have e:j=g:=e;omega)
 ·intro k hk
  have:=hF9 k hk
  have hb2:p.bb<w.heap.size:=hbb
  exact⟨by omega,by show k≠p.bb;omega⟩
 ·intro k hk e
  have:=hF9 k e
  have:=(OwnE.ltB h.dr k hk).2
  omega
end Nd
end Go.Proofs.YtiddkgcafpaekaaGreat
