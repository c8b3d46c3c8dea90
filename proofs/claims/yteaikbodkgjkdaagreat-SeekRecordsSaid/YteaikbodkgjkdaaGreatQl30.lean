/-
  Texts beneath.
-/
import Derived.WalkSmall
import Derived.Test.YteaikbodkgjkdaaGreatQl24
import Derived.Test.YteaikbodkgjkdaaGreatQl29
set_option linter.unusedVariables false
set_option linter.unusedSimpArgs false
set_option maxRecDepth 100000
set_option maxHeartbeats 2000000
open Go.ChangeShapes Go.WideShapes Go.ChangeAt Go.RowKit
namespace Go.Proofs.YteaikbodkgjkdaaGreat
namespace Zg
open Bytes8 Blk8 Ya Ob Ga Ma Mb Mg Na Nb Nc Nh Nl Np Fc Nq Ns Nt Nu Fa Yd Yc Za Zb Zc Zd Ze Zf Pr8 Ps8 Pl8
theorem aK6 (n:Nat):prs (fun _=>0) (fun _=>0) n=List.replicate (2*n) 0:=by
 induction n with
 |zero=>rfl
 |succ n ih=>
  rw[show prs (fun _=>0) (fun _=>0) (n+1)=prs (fun _=>0) (fun _=>0) n++ [0,0]by simp[prs,List.range_succ],ih,show 2*(n+1)=2*n+2 by omega,←List.replicate_append_replicate]
  rfl
def tabO (k:Int)(n i:Nat):O:=⟨k,List.replicate (2*n) 0,[],(0,i)⟩
theorem aFD (k:Int)(n i:Nat):(tabO k n i).enc=Np.tabB k n:=by
 unfold O.enc O.body tabO Np.tabB
 rw[List.append_nil,aK6]
theorem aK7 {k:Int}(n i:Nat)(a:1≤k∧k≤7)(b:n≤64):(tabO k n i).Ok:=
 {k:=a
  ws:=fun x hx=>by rw[List.eq_of_mem_replicate hx];decide
  tl:=fun x hx=>by cases hx
  n:=by
   rw[O.body_len]
   show 8*(List.replicate (2*n) (0:Int)).length+0≤_
   rw[List.length_replicate];omega}
theorem aO3 {C:Cf}(h:CfOk C)(b:Int):Hold (Mk.new C b) [tabO 4 C.ds 0,tabO 5 C.fs 1] (fun _=>[]) [] []:=by
 have m:=h.ds
 have p:=h.fs
 have u:=aK7 (k:=4) C.ds 0 (by decide) m.2
 have v:=aK7 (k:=5) C.fs 1 (by decide) p.2
 have w:(tabO 4 C.ds 0).n=16+16*C.ds:=by
  show(tabO 4 C.ds 0).enc.length=_
  rw[aFD,aAu]
 have q: ∀(k:Int) (n i j:Nat),(tabO k n i).ws.getD j 0=0:=fun k n i j=>by
  show(List.replicate (2*n) (0:Int)).getD j 0=0
  rw[yD,List.getElem?_replicate]
  split<;>rfl
 have t:obj 272 [tabO 4 C.ds 0,tabO 5 C.fs 1] 272=some (tabO 4 C.ds 0):=rfl
 have r:obj 272 [tabO 4 C.ds 0,tabO 5 C.fs 1] (288+16*C.ds)=some (tabO 5 C.fs 1):=by
  show(if 288+16*C.ds=272 then _ else if 288+16*C.ds=272+(tabO 4 C.ds 0).n then _ else _)=_
  rw[if_neg (by omega),if_pos (by omega)]
 have f: ∀a j,wd [tabO 4 C.ds 0,tabO 5 C.fs 1] a j=0:=fun a j=>by
  unfold wd
  show(match (if a=272 then some (tabO 4 C.ds 0)else if a=272+(tabO 4 C.ds 0).n then some (tabO 5 C.fs 1)else none)with|some o=>o.ws.getD j 0|none=>0)=0
  by_cases e:a=272
  ·rw[if_pos e];exact q _ _ _ _
  ·rw[if_neg e]
   by_cases l:a=272+(tabO 4 C.ds 0).n
   ·rw[if_pos l];exact q _ _ _ _
   ·rw[if_neg l]
 exact
  {rep:=by
    refine⟨⟨?_,?_⟩,?_⟩
    ·show 272≤(z272++Np.tabB 4 C.ds++Np.tabB 5 C.fs).length
     rw[yA,yA]
     unfold z272
     rw[List.length_replicate];omega
    ·show(z272++Np.tabB 4 C.ds++Np.tabB 5 C.fs).drop 272=_
     rw[List.append_assoc,List.drop_append]
     unfold z272
     rw[List.length_replicate,List.drop_of_length_le (by rw[List.length_replicate];omega),Nat.sub_self,List.drop_zero,List.nil_append,aAY,aAY,aFD,aFD]
     simp[enc]
    ·intro o g
     simp at g
     rcases g with rfl|rfl
     ·exact u
     ·exact v
   td:=⟨⟨(0,0),by unfold shp;rw[t];show some (Sh.mk 4 (List.replicate (2*C.ds) (0:Int)).length [] (0,0))=_;rw[List.length_replicate];rfl⟩,fun s _=>by rw[f];rfl,fun s _=>by rw[f];rfl⟩
   tf:=⟨⟨(0,1),by
    unfold shp
    show Option.map O.sh (obj 272 _ (288+16*C.ds))=_
    rw[r];show some (Sh.mk 5 (List.replicate (2*C.fs) (0:Int)).length [] (0,1))=_;rw[List.length_replicate];rfl⟩,fun s _=>by rw[f];rfl,fun s _=>by rw[f];rfl⟩
   dat:=fun i hi=>absurd hi (Nat.not_lt_zero _)
   fld:=fun i hi=>absurd hi (Nat.not_lt_zero _)
   asc:=List.Pairwise.nil,ascF:=List.Pairwise.nil
   ownF:=fun d hd=>by cases hd
   dtx:=List.Pairwise.nil,ftx:=List.Pairwise.nil,none:=fun _ _=>rfl
   mn:=ArrW.nil _ _
   ent:=fun i hi=>absurd hi (Nat.not_lt_zero _)
   cov:=fun x s hx=>by
    obtain⟨o,g,_⟩:=aBm hx
    have c:(if x=272 then some (tabO 4 C.ds 0)else if x=272+(tabO 4 C.ds 0).n then some (tabO 5 C.fs 1)else none)=some o:=g
    by_cases e:x=272
    ·exact .inl e
    ·rw[if_neg e]at c
     by_cases l:x=272+(tabO 4 C.ds 0).n
     ·exact .inr (.inl (by show x=288+16*C.ds;omega))
     ·rw[if_neg l]at c;cases c}
def hsAll (e:Nat)(hs:Nat→List Nat)(who:List Nat):Nat→List Nat:=who.foldl (fun h j i=>if i=j then h j++ [e]else h i) hs
theorem aDs {g:Nat}{m:Mk}{os:List O}{hs:Nat→List Nat}{f:List Nat}{d:List (Nat×List Int)}(h:Hold m os hs f d)(I:InvM g 0 m)(e:Nat)(who:List Nat)(c: ∀x∈who,x<m.datas.length)(a:who.length≤16)(n:m.b.length≤900000)(p:g≤900000)(j:e≤10000000): ∀i,i≤who.length→ ∃os',Hold (Mk.markAll e m (who.take i)) os' (hsAll e hs (who.take i)) f d
 |0,_=>by
  rw[show Mk.markAll e m (who.take 0)=m by rw[List.take_zero];rfl,show hsAll e hs (who.take 0)=hs by rw[List.take_zero];rfl]
  exact⟨os,h⟩
 |i+1,hi=>by
  obtain⟨o1,h1⟩:=aDs h I e who c a n p j i (by omega)
  obtain⟨l,s,t,o,u,q,r⟩:=aAL I e who c a i (by omega)
  rw[aBk e m who i (by omega),show hsAll e hs (who.take (i+1))=(fun x=>if x=who[i]then hsAll e hs (who.take i) who[i]++ [e]else hsAll e hs (who.take i) x)by
   unfold hsAll
   rw[List.take_succ_eq_append_getElem (by omega),List.foldl_append]
   rfl]
  exact aKM h1 (by omega) (by rw[o];exact c _ (List.getElem_mem _)) j (fun k hk=>by have:=l.cnt k hk;omega)
theorem aK8 (e:Nat)(m:Mk)(j:Nat):(Mk.mark e m j).main=m.main∧(Mk.mark e m j).h.N 11=m.h.N 11:=by
 unfold Mk.mark
 dsimp only
 split
 ·exact⟨rfl,rfl⟩
 ·unfold Mk.link
  split
  ·refine⟨rfl,?_⟩
   show(setN (setN (setN m.h 6 _) 7 _) 18 _).N 11=_
   rw[aA1 _ _ _ _ (by decide),aA1 _ _ _ _ (by decide),aA1 _ _ _ _ (by decide)]
  ·exact⟨rfl,rfl⟩
theorem aDt (e:Nat): ∀(who:List Nat) (m:Mk),(Mk.markAll e m who).main=m.main∧(Mk.markAll e m who).h.N 11=m.h.N 11
 | [],m=>⟨rfl,rfl⟩
 |j::who,m=>by
  obtain⟨a1,a2⟩:=aDt e who (Mk.mark e m j)
  obtain⟨a,b2⟩:=aK8 e m j
  exact⟨a1.trans a,a2.trans b2⟩
theorem aNo {s r c x:Int}{K:Nat→Int}(a:IdOk K)(b:List Int):AllB (entB s r c K x b):=by
 unfold entB
 exact(((aFr _).app (aHf a)).app (aFr _)).app (aFr _)
theorem aO4 {n:List Int}(h:nmB n=true): ∀x∈n,x≠61:=fun x hx=>by
 unfold nmB at h
 simp only[Bool.and_eq_true]at h
 have a:=List.all_eq_true.1 h.2 x hx
 intro e
 subst e
 exact absurd a (by decide)
theorem aGz: ∀(l:List PR),codeL l=0→ ∀q∈l,flawI q.1 q.2=0
 | [],_,q,hq=>by cases hq
 |p::r,h,q,hq=>by
  unfold codeL at h
  split at h
  ·next h0=>
   rcases List.mem_cons.1 hq with rfl|hq
   ·exact h0
   ·exact aGz r h q hq
  ·next h0=>exact absurd h h0
theorem aHB {a:List PR}(h:listE a=0):(listL a).length≤16∧ ∀q∈listL a,q∈a∧flawI q.1 q.2=0:=by
 have c:listL a=sortP (ded a):=if_pos h
 unfold listE at h
 split at h
 ·cases h
 ·split at h
  ·next hc=>
   split at h
   ·next h16=>
    rw[c,aBw]
    refine⟨h16,fun q hq=>?_⟩
    have b:=(aC0 a q).1 ((aBb _ _).1 hq)
    exact⟨b,aGz _ hc q b⟩
   ·cases h
  ·next hc=>exact absurd h hc
structure PrOk (L:List PR):Prop where
 all: ∀q∈L,AllB q.1∧AllB q.2∧q.1.length≤64∧q.2.length≤256
 nm: ∀q∈L,∀x∈q.1,x≠61
 len:L.length≤16
theorem aK9 {a:List PR}(i:AllP a)(j:listE a=0):PrOk (listL a):=by
 obtain⟨n16,b⟩:=aHB j
 refine⟨fun q hq=>?_,fun q hq=>?_,n16⟩
 ·obtain⟨e,c⟩:=b q hq
  have g:=i q e
  have d:=aBi c
  exact⟨g.1,g.2.1,d.1,d.2⟩
 ·obtain⟨e,c⟩:=b q hq
  unfold flawI at c
  by_cases f:nmB q.1=true
  ·exact aO4 f
  ·rw[if_neg f]at c;cases c
theorem aJD {m:Mk}{os:List O}{hs:Nat→List Nat}{d:List Nat}{J:List (Nat×List Int)}(h:Hold m os hs d J)(I:Inv m)(h8:m.h.N 8=(d.length:Nat)){L:List PR}(j:PrOk L)(hb:m.b.length≤32768)(real mono:Int)(K:Nat→Int)(hK:IdOk K):
 ∃os',Hold (Mk.grown m L real mono K) os' (hsAll (Mk.dataAll m L).1.b.length hs (Mk.dataAll m L).2) (d++ [(Mk.dataAll m L).1.b.length]) (J++ [((Mk.dataAll m L).1.b.length,entB (m.h.N 9+1) real mono K ((xr (L.map fun q=>pay q.1 q.2):Nat):Int) (prs (fun i=>((Mk.kn (Mk.dataAll m L).1 ((Mk.dataAll m L).2.getD i 0)).at_:Int)) (fun i=>Mk.sum (Mk.dataAll m L).1 (Mk.kn (Mk.dataAll m L).1 ((Mk.dataAll m L).2.getD i 0)).text) (Mk.dataAll m L).2.length))])∧
  (Mk.grown m L real mono K).h.N 11=((Mk.grown m L real mono K).main.headD 0:Nat)∧m.b.length≤(Mk.dataAll m L).1.b.length∧(Mk.dataAll m L).1.b.length<(Mk.grown m L real mono K).b.length:=by
 obtain⟨n,X,H,i4,r⟩:=aAs I L j.all L.length (yR _)
 obtain⟨o1,G⟩:=aBS h I L j.all j.nm j.len (by omega) L.length (yR _)
 rw[List.take_length]at n X H i4 r G
 have E:=j.len
 unfold Mk.grown
 dsimp only
 generalize aa:Mk.dataAll m L=s at*
 obtain⟨a,who⟩:=s
 dsimp only at*
 obtain⟨l,g,f,z⟩:=n.mn
 have t:(Mk.eobj a who (L.map fun q=>pay q.1 q.2) (m.h.N 9+1) real mono K).length%8=0∧0<(Mk.eobj a who (L.map fun q=>pay q.1 q.2) (m.h.N 9+1) real mono K).length∧(Mk.eobj a who (L.map fun q=>pay q.1 q.2) (m.h.N 9+1) real mono K).length≤400∧64≤(Mk.eobj a who (L.map fun q=>pay q.1 q.2) (m.h.N 9+1) real mono K).length:=by
  have e:=aDG a who (L.map fun q=>pay q.1 q.2) (m.h.N 9+1) real mono K
  omega
 obtain⟨e1,e2,e3,e4⟩:=t
 have M:=aNd G (body:=entB (m.h.N 9+1) real mono K ((xr (L.map fun q=>pay q.1 q.2):Nat):Int) (prs (fun i=>((Mk.kn a (who.getD i 0)).at_:Int)) (fun i=>Mk.sum a (Mk.kn a (who.getD i 0)).text) who.length)) (aNo hK _) (by rw[aDC];omega)
 have o:Mk.eobj a who (L.map fun q=>pay q.1 q.2) (m.h.N 9+1) real mono K=objB 3 (entB (m.h.N 9+1) real mono K ((xr (L.map fun q=>pay q.1 q.2):Nat):Int) (prs (fun i=>((Mk.kn a (who.getD i 0)).at_:Int)) (fun i=>Mk.sum a (Mk.kn a (who.getD i 0)).text) who.length)):=rfl
 rw[←o]at M
 have I2:=aA7 n _ e1 e2
 have Y:=aAM a (Mk.eobj a who (L.map fun q=>pay q.1 q.2) (m.h.N 9+1) real mono K)
 generalize Mk.eobj a who (L.map fun q=>pay q.1 q.2) (m.h.N 9+1) real mono K=c at*
 generalize entB (m.h.N 9+1) real mono K ((xr (L.map fun q=>pay q.1 q.2):Nat):Int) (prs (fun i=>((Mk.kn a (who.getD i 0)).at_:Int)) (fun i=>Mk.sum a (Mk.kn a (who.getD i 0)).text) who.length)=body at*
 have p:Chain (a.object c).b.length (a.object c).main l:=f.mono (by omega)
 have x:(a.object c).h.N 8=(l:Int):=g
 have C:=n.len
 have e8:(m.h.N 8).toNat=l:=by rw[←r.n8,g];rfl
 have A:d.length=l:=by omega
 rw[e8,←A]
 obtain⟨o3,H3⟩:=aHv M (by omega) (item:=a.b.length) (by omega)
 obtain⟨F,g2,g3,w,g5,V,g7⟩:=aBx I2 a.b.length l x p (by omega) (by omega)
 rw[←A]at F g2 g3 w g5 V g7
 have v:(Mk.linked (a.object c) a.b.length d.length).h.N 11=(((Mk.linked (a.object c) a.b.length d.length).main.headD 0:Nat):Int):=by
  show(setN (Mk.link (a.object c) (a.object c).main d.length 176 a.b.length).1.h 11 _).N 11=_
  rw[aBN]
  show(((Mk.link (a.object c) (a.object c).main d.length 176 a.b.length).2.1.getD 0 0:Nat):Int)=(((Mk.link (a.object c) (a.object c).main d.length 176 a.b.length).2.1.headD 0:Nat):Int)
  cases(Mk.link (a.object c) (a.object c).main d.length 176 a.b.length).2.1<;>rfl
 generalize Mk.linked (a.object c) a.b.length d.length=u at*
 have k:InvM a.b.length 0 u:=⟨F,fun k' hk'=>by rw[w]at hk';exact(n.dat k' hk').2.2.2.2,by omega⟩
 have D: ∀y∈who,y<u.datas.length:=fun y hy=>by rw[w];exact H y hy
 obtain⟨R,k2,k3,k4,k5,k6,Z⟩:=aAL k a.b.length who D (by omega) who.length (yR _)
 obtain⟨o4,B⟩:=aDs H3 k a.b.length who D (by omega) (by omega) (by omega) (by omega) who.length (yR _)
 rw[List.take_length]at R k2 k3 k4 k5 k6 Z B
 obtain⟨y1,y2⟩:=aDt a.b.length who u
 exact⟨o4,B,by rw[y2,y1];exact v,r.len,by omega⟩
theorem aLa {m:Mk}{a:List O}{hs:Nat→List Nat}{d:List Nat}{c:List (Nat×List Int)}(H:Hold m a hs d c)(n:Nat)(b real mono:Int)(K:Nat→Int)(te:Nat):Hold (Mk.told m n b real mono K te) a hs d c:=
 {rep:=H.rep,td:=H.td,tf:=H.tf
  dat:=fun i hi=>(H.dat i hi).stp rfl (Stp.refl a (fun _ _=>False)) (fun _ _ _ h=>h) (fun _ _ _ _ _ h=>h)
  fld:=fun i hi=>by
   have F:=H.fld i hi
   exact {sh:=F.sh,w0:=F.w0,slot:=F.slot,fol:=F.fol}
  asc:=H.asc,ascF:=H.ascF,ownF:=H.ownF,dtx:=H.dtx,ftx:=H.ftx,none:=H.none,mn:=H.mn,ent:=H.ent,cov:=H.cov}
structure Kept (m:Mk)(n:Nat)(os:List O)(hs:Nat→List Nat)(mi:List Nat)(es:List (Nat×List Int)):Prop where
 hold:Hold m os hs mi es
 good:Nu.Good m
 n8:m.h.N 8=(n:Int)
 len:mi.length=n
 n11:m.h.N 11=(m.main.headD 0:Nat)
 rise:mi.Pairwise (· < ·)
 bd: ∀x∈mi,304≤x∧x<m.b.length
 ent:es.map Prod.fst=mi
end Zg
namespace Zj
open Bytes8 Blk8 Ya Ga Ma Mb Mg Na Nb Nc Nh Nl Np Nq Ns Nt Nu Fa Yd Yc Za Zb Zc Zd Ze Zf Zg Pr8 Ps8 Pl8
structure DG (m m':Mk):Prop where
 C:m'.C=m.C
 ic:m'.h.ic=m.h.ic
 I: ∀i,i<16→m'.h.I i=m.h.I i
 len:m.datas.length≤m'.datas.length
 kn: ∀i,i<m.datas.length→(Mk.kn m' i).at_=(Mk.kn m i).at_∧(Mk.kn m' i).text=(Mk.kn m i).text
theorem DG.refl (m:Mk):DG m m:=⟨rfl,rfl,fun _ _=>rfl,yR _,fun _ _=>⟨rfl,rfl⟩⟩
theorem DG.trans {a b c:Mk}(h:DG a b)(k:DG b c):DG a c:=
 ⟨k.C.trans h.C,k.ic.trans h.ic,fun i hi=>(k.I i hi).trans (h.I i hi),Nat.le_trans h.len k.len,fun i hi=>by
   have d:=k.kn i (yL hi h.len)
   have e:=h.kn i hi
   exact⟨d.1.trans e.1,d.2.trans e.2⟩⟩
theorem aHC {m m':Mk}(b:m'.C=m.C)(d:m'.h.ic=m.h.ic)(c: ∀i,i<16→m'.h.I i=m.h.I i)(a:m'.datas=m.datas):DG m m':=
 ⟨b,d,c,by rw[a];exact yR _,fun i _=>by unfold Mk.kn;rw[a];exact⟨rfl,rfl⟩⟩
theorem aGA (m:Mk)(arr:List Nat)(n fr item:Nat):(Mk.link m arr n fr item).1.datas=m.datas∧(Mk.link m arr n fr item).1.C=m.C∧(Mk.link m arr n fr item).1.h.ic=m.h.ic∧(Mk.link m arr n fr item).1.h.I=m.h.I:=by
 unfold Mk.link
 split<;>exact⟨rfl,rfl,rfl,rfl⟩
theorem aLb (m:Mk)(l:List Int):DG m (m.object l):=aHC rfl rfl (fun _ _=>rfl) rfl
theorem aLc (m:Mk)(x n:Nat):DG m (Mk.linked m x n):=by
 obtain⟨a,c,b,d⟩:=aGA m m.main n 176 x
 exact aHC c b (fun i _=>congrFun d i) a
theorem aLd (e:Nat)(m:Mk)(j:Nat): ∃(c:Nat) (arr:List Nat),(Mk.mark e m j).datas=m.datas.set j {Mk.kn m j with count:=c,arrays:=arr}∧(Mk.mark e m j).C=m.C∧(Mk.mark e m j).h.ic=m.h.ic∧(Mk.mark e m j).h.I=m.h.I:=by
 unfold Mk.mark
 dsimp only
 split
 ·exact⟨_,_,rfl,rfl,rfl,rfl⟩
 ·obtain⟨a,d,b,f⟩:=aGA m (Mk.kn m j).arrays ((Mk.kn m j).count-1) ((Mk.kn m j).at_+48) e
  exact⟨_,_,by rw[a],d,b,f⟩
theorem aO5 (e:Nat)(m:Mk)(j:Nat):DG m (Mk.mark e m j):=by
 obtain⟨c,arr,b,d,k,f⟩:=aLd e m j
 refine⟨d,k,fun i _=>congrFun f i,by rw[b,List.length_set];exact yR _,fun i hi=>?_⟩
 have g:Mk.kn (Mk.mark e m j) i=if j=i then {Mk.kn m j with count:=c,arrays:=arr}else Mk.kn m i:=by
  show(Mk.mark e m j).datas.getD i _=_
  rw[b,yD,List.getElem?_set]
  by_cases a:j=i
  ·rw[if_pos a,if_pos a,if_pos (by omega)];rfl
  ·rw[if_neg a,if_neg a];unfold Mk.kn;rw[yD]
 rw[g]
 split
 ·next e=>subst e;exact⟨rfl,rfl⟩
 ·exact⟨rfl,rfl⟩
theorem aEZ (e:Nat): ∀(who:List Nat) (m:Mk),DG m (Mk.markAll e m who)
 | [],m=>DG.refl m
 |j::r,m=>(aO5 e m j).trans (aEZ e r (Mk.mark e m j))
theorem aO6 (m:Mk)(n:Nat)(a real mono:Int)(K:Nat→Int)(te:Nat):DG m (Mk.told m n a real mono K te):=by
 refine aHC rfl ?_ (fun i hi=>?_) rfl
 ·unfold Mk.told;dsimp only;split<;>rfl
 ·unfold Mk.told;dsimp only
  rw[if_neg (by omega)]
  split<;>rfl
theorem kn_at {m:Mk}{i:Nat}(a:i<m.datas.length):Mk.kn m i=m.datas[i]:=by
 unfold Mk.kn;rw[yD,yG a];rfl
theorem aGB (m:Mk)(a:List Int):(Mk.fieldOf m a).2.h.ic=m.h.ic∧(Mk.fieldOf m a).2.h.I=m.h.I:=by
 unfold Mk.fieldOf
 split<;>exact⟨rfl,rfl⟩
theorem dataOf_text {m:Mk}(h:Inv m)(a s:List Int)(j:AllB a)(b:a.length≤64)(hs:AllB s)(d:s.length≤400):
 (Mk.kn (Mk.dataOf m a s).2 (Mk.dataOf m a s).1).text=s∧DG m (Mk.dataOf m a s).2:=by
 unfold Mk.dataOf
 cases e:idxK m.datas s with
 |some i=>
  refine⟨?_,DG.refl m⟩
  have c:=aGk e
  unfold idxK at e
  obtain⟨o,g,_⟩:=List.findIdx?_eq_some_iff_getElem.1 e
  show(Mk.kn m i).text=s
  rw[kn_at c]
  simpa using g
 |none=>
  obtain⟨o,g,r,f,p,t,u,q⟩:=aCb h a s j b hs d
  obtain⟨n,k⟩:=aGB (Mk.put1 m s) a
  refine⟨?_,p,n,fun i _=>congrFun k i,?_,fun i c=>?_⟩
  ·show(Mk.kn (Mk.dataNew m a s) m.datas.length).text=s
   unfold Mk.kn
   rw[f,yD,List.getElem?_append_right (yR _)]
   simp
  ·show m.datas.length≤(Mk.dataNew m a s).datas.length
   rw[f,yA];omega
  ·have l:Mk.kn (Mk.dataNew m a s) i=Mk.kn m i:=by
    unfold Mk.kn
    rw[f,yD,List.getElem?_append_left c,yD]
   show(Mk.kn (Mk.dataNew m a s) i).at_=_∧(Mk.kn (Mk.dataNew m a s) i).text=_
   rw[l]
   exact⟨rfl,rfl⟩
theorem aLe (f:Nat→Nat)(who:List Nat)(k:Nat):(insW f who k).Perm (k::who):=by
 have h:=List.perm_middle (a:=k) (l₁:=who.take (posW f (f k) who who.length)) (l₂:=who.drop (posW f (f k) who who.length))
 rw[List.take_append_drop]at h
 exact h
theorem aGC (f:Nat→Nat)(x:Nat)(who:List Nat): ∀j,(∀i,posW f x who j≤i→i<j→x<f (who.getD i 0))∧(0<posW f x who j→ ¬x<f (who.getD (posW f x who j-1) 0))
 |0=>⟨fun i _ h=>absurd h (Nat.not_lt_zero i),fun h=>absurd h (Nat.lt_irrefl 0)⟩
 |j+1=>by
  obtain⟨h1,h2⟩:=aGC f x who j
  unfold posW
  by_cases h:x<f (who.getD j 0)
  ·rw[if_pos h]
   refine⟨fun i hi hj=>?_,h2⟩
   by_cases e:i=j
   ·rw[e];exact h
   ·exact h1 i hi (by omega)
  ·rw[if_neg h]
   exact⟨fun i hi hj=>by omega,fun _=>h⟩
theorem aHD {f:Nat→Nat}{who:List Nat}{k:Nat}(h:who.Pairwise (fun a b=>f a<f b))(q: ∀x∈who,f x≠f k):(insW f who k).Pairwise (fun a b=>f a<f b):=by
 obtain⟨n,r⟩:=aGC f (f k) who who.length
 have u:=aHr f (f k) who who.length
 unfold insW
 generalize posW f (f k) who who.length=p at*
 have hs:=h
 rw[←List.take_append_drop p who,List.pairwise_append]at hs
 obtain⟨m,j,l⟩:=hs
 rw[List.pairwise_append,List.pairwise_cons]
 have d: ∀i (c:i<who.length),who.getD i 0=who[i]:=fun i c=>by simp[yG c]
 refine⟨m,⟨fun b g=>?_,j⟩,fun a ha b g=>?_⟩
 ·obtain⟨i,c,e⟩:=List.getElem_of_mem g
  rw[List.length_drop]at c
  rw[List.getElem_drop]at e
  have:=n (p+i) (by omega) (by omega)
  rw[d _ (by omega),e]at this
  exact this
 ·rcases List.mem_cons.1 g with e|g
  ·subst e
   obtain⟨i,c,e⟩:=List.getElem_of_mem ha
   rw[List.length_take]at c
   rw[List.getElem_take]at e
   have o:=r (by omega)
   rw[d _ (by omega)]at o
   have s:f who[i]≤f (who[p-1]'(by omega)):=by
    by_cases t:i=p-1
    ·subst t;exact yR _
    ·exact Nat.le_of_lt (List.pairwise_iff_getElem.1 h i (p-1) (by omega) (by omega) (by omega))
   have v:=q a (List.mem_of_mem_take ha)
   rw[e]at s
   omega
  ·exact l a ha b g
theorem aLf {m:Mk}{H:List O}{hs:Nat→List Nat}{N:List Nat}{M:List (Nat×List Int)}(h:Hold m H hs N M)(I:Inv m)(l:List PR)(c:PrOk l)(G:m.b.length≤900000)(e:(l.map fun q=>pay q.1 q.2).Nodup): ∀k,k≤l.length→
 DG m (Mk.dataAll m (l.take k)).1∧((Mk.dataAll m (l.take k)).2.map fun i=>(Mk.kn (Mk.dataAll m (l.take k)).1 i).text).Perm ((l.take k).map fun q=>pay q.1 q.2)∧(Mk.dataAll m (l.take k)).2.Pairwise (fun a b=>(Mk.kn (Mk.dataAll m (l.take k)).1 a).at_<(Mk.kn (Mk.dataAll m (l.take k)).1 b).at_)
 |0,_=>⟨DG.refl m,List.Perm.refl _,List.Pairwise.nil⟩
 |k+1,hk=>by
  have hkl:k<l.length:=hk
  obtain⟨g,A,L⟩:=aLf h I l c G e k (by omega)
  obtain⟨B,Y,t,i4,i5⟩:=aAs I l c.all k (by omega)
  obtain⟨o2,R⟩:=aBS h I l c.all c.nm c.len (by omega) (k+1) hk
  obtain⟨X,j2,Z,j4,V⟩:=aAs I l c.all (k+1) hk
  obtain⟨o,E,w,q4⟩:=c.all l[k] (List.getElem_mem _)
  have f:(pay l[k].1 l[k].2).length≤400:=by rw[Nee.pay_len];omega
  obtain⟨z,dg⟩:=dataOf_text B l[k].1 (pay l[k].1 l[k].2) o w (aBr o E) f
  have F:=(aC1 B l[k].1 (pay l[k].1 l[k].2) o w (aBr o E) f).2.1
  have p:=R.asc
  rw[aA0 m l k (by omega)]at p⊢
  have D:l.take (k+1)=l.take k++ [l[k]]:=List.take_succ_eq_append_getElem (by omega)
  have d:pay l[k].1 l[k].2∉(l.take k).map fun q=>pay q.1 q.2:=fun hm=>by
   have j:=e.sublist ((List.take_sublist (k+1) l).map fun q=>pay q.1 q.2)
   rw[D,List.map_append,List.nodup_append]at j
   exact j.2.2 _ hm _ (List.mem_singleton_self _) rfl
  generalize Mk.dataAll m (l.take k)=s at*
  obtain⟨v,who⟩:=s
  dsimp only at*
  unfold dataStep at p⊢
  dsimp only at p⊢
  generalize Mk.dataOf v l[k].1 (pay l[k].1 l[k].2)=r at*
  obtain⟨y,n⟩:=r
  dsimp only at*
  have C:who.map (fun i=>(Mk.kn n i).text)=who.map (fun i=>(Mk.kn v i).text):=List.map_congr_left fun x hx=>(dg.kn x (t x hx)).2
  refine⟨g.trans dg,?_,?_⟩
  ·refine((aLe _ who y).map _).trans ?_
   rw[List.map_cons,z,C,D,List.map_append,List.map_singleton]
   exact(List.Perm.cons _ A).trans (List.perm_append_singleton _ _).symm
  ·refine aHD (L.imp_of_mem fun {a b} ha hb2 hab=>?_) fun x hx he=>?_
   ·try dsimp only
    rw[(dg.kn a (t a ha)).1,(dg.kn b (t b hb2)).1]
    exact hab
   ·have u:x<n.datas.length:=yL (t x hx) dg.len
    try dsimp only at he
    have J:Mk.kn n x=Mk.kn n y:=by
     rw[kn_at u,kn_at F]at he⊢
     exact p.inj (List.getElem_mem _) (List.getElem_mem _) he
    refine d (A.mem_iff.1 ?_)
    rw[←C,←z,←J]
    exact List.mem_map.2 ⟨x,hx,rfl⟩
theorem aJE {c:List PR}(g:listE c=0):((listL c).map fun q=>pay q.1 q.2).Nodup:=by
 obtain⟨n16,d⟩:=aHB g
 have l:(listL c).Nodup:=by
  unfold listL
  rw[if_pos g]
  exact(aB1 _).nodup_iff.2 (aGg c)
 rw[List.nodup_iff_pairwise_ne,List.pairwise_map]
 refine(List.nodup_iff_pairwise_ne.1 l).imp_of_mem fun {a b} ha hb hab he=>hab ?_
 obtain⟨_,k⟩:=d a ha
 obtain⟨_,b2⟩:=d b hb
 obtain⟨_,f,e⟩:=aBa k
 obtain⟨_,i,j⟩:=aBa b2
 rw[he]at f e
 exact Prod.ext (f.symm.trans i) (e.symm.trans j)
abbrev RR:=List PR×Int×Int×(Nat→Int)
def EntR (m:Mk)(sq:Int)(r:RR)(body:List Int):Prop:= ∃who:List Nat,(∀x∈who,x<m.datas.length)∧who.Pairwise (fun a b=>(Mk.kn m a).at_<(Mk.kn m b).at_)∧(who.map fun i=>(Mk.kn m i).text).Perm ((listL r.1).map fun q=>pay q.1 q.2)∧
 body=entB sq r.2.1 r.2.2.1 r.2.2.2 ((xr ((listL r.1).map fun q=>pay q.1 q.2):Nat):Int) (prs (fun i=>((Mk.kn m (who.getD i 0)).at_:Int)) (fun i=>Mk.sum m (Mk.kn m (who.getD i 0)).text) who.length)
theorem aNp {f g a b:Nat→Int}{k:Nat}(h: ∀i,i<k→f i=a i∧g i=b i):prs f g k=prs a b k:=by
 induction k with
 |zero=>rfl
 |succ k ih=>rw[aB7,aB7,ih (fun i hi=>h i (by omega)),(h k (by omega)).1,(h k (by omega)).2]
theorem getD_lt {who:List Nat}{i:Nat}(a:i<who.length):who.getD i 0=who[i]:=by simp[yG a]
theorem EntR.dg {m m':Mk}{d:Int}{r:RR}{body:List Int}(h:EntR m d r body)(g:DG m m'):EntR m' d r body:=by
 obtain⟨who,c,e,j,f⟩:=h
 refine⟨who,fun x hx=>yL (c x hx) g.len,e.imp_of_mem fun {a b} ha hb hab=>?_,?_,?_⟩
 ·rw[(g.kn a (c a ha)).1,(g.kn b (c b hb)).1];exact hab
 ·rw[List.map_congr_left fun x hx=>(g.kn x (c x hx)).2];exact j
 ·rw[f]
  congr 1
  refine aNp fun i hi=>?_
  rw[getD_lt hi,(g.kn _ (c _ (List.getElem_mem hi))).1,(g.kn _ (c _ (List.getElem_mem hi))).2,aEB g.C]
  exact⟨rfl,rfl⟩
structure RROk (r:RR):Prop where
 list:listE r.1=0
 all:AllP r.1
 real:0≤r.2.1∧r.2.1≤18446744073709551615
 mono:0≤r.2.2.1∧r.2.2.1≤18446744073709551615
 K:IdOk r.2.2.2
structure Recs (m:Mk)(rs:List RR)(es:List (Nat×List Int)):Prop where
 len:es.length=rs.length
 ic:m.h.ic=if m.C.keyed then 4 else 0
 I: ∀i,i<16→m.h.I i=m.C.F i
 base:(rs.length:Int)≤m.h.N 9
 top:m.h.N 9≤18446744073709551615
 ok: ∀r∈rs,RROk r
 ent: ∀i (h:i<rs.length) (h2:i<es.length),EntR m (m.h.N 9-rs.length+i+1) rs[i] es[i].2
theorem aGD {m:Mk}{rs:List RR}(h:Nu.Reach m rs): ∃E hs y w,Kept m rs.length E hs y w∧Recs m rs w:=by
 induction h with
 |mk h after ha=>
  refine⟨_,_,_,_,⟨aO3 h after,aDI h after ha,rfl,rfl,rfl,List.Pairwise.nil,(fun x hx=>absurd hx List.not_mem_nil),rfl⟩,⟨rfl,rfl,fun i g=>?_,?_,?_,(fun x hx=>absurd hx List.not_mem_nil),fun i g=>absurd g (Nat.not_lt_zero i)⟩⟩
  ·show hdI3 _ i=_
   unfold hdI3
   rw[if_pos g]
   rfl
  ·show((0:Nat):Int)≤(hdN _ after).N 9
   rw[show(hdN _ after).N 9=after from aBN _ _ _]
   exact ha.1
  ·show(hdN _ after).N 9≤_
   rw[show(hdN _ after).N 9=after from aBN _ _ _]
   exact ha.2
 |step h L hP real mono K hr hm hK h0 ih=>
  rename_i m rs
  obtain⟨E,hs,y,w,k,q⟩:=ih
  have D:=aDa k.good hP real mono K hr hm hK
  have f:listE L=0:=by
   unfold Mk.acode at h0
   by_cases f:listE L=0
   ·exact f
   ·rw[if_pos f]at h0;exact absurd h0 f
  have z:m.h.N 9≠18446744073709551615:=fun z=>by
   unfold Mk.acode at h0
   rw[if_neg (by simpa using f),if_pos z]at h0
   cases h0
  have p:=aK9 hP f
  have aa:=k.good.img.len
  have t:m.b.length≤900000:=by omega
  obtain⟨s,l,n⟩:=aLf k.hold k.good.img.inv (listL L) p t (aJE f) (listL L).length (yR _)
  obtain⟨i1,i2,F,i4,i5⟩:=aAs k.good.img.inv (listL L) p.all (listL L).length (yR _)
  rw[List.take_length]at s l n F
  obtain⟨Y,H,v,ab,G⟩:=aJD k.hold k.good.img.inv (by rw[k.n8,k.len]) p k.good.img.len real mono K hK
  have e8:=aDb k.good.img.inv k.good.img.hg (listL L) p.all p.len k.good.img.len real mono K hr hm hK z
  have X:Mk.after m L real mono K=Mk.entered m (listL L) real mono K:=by unfold Mk.after;rw[if_pos h0]
  rw[X]at D⊢
  have hb:(Mk.entered m (listL L) real mono K).b=(Mk.grown m (listL L) real mono K).b:=rfl
  have B: ∀x∈y++ [(Mk.dataAll m (listL L)).1.b.length],304≤x∧x<(Mk.grown m (listL L) real mono K).b.length:=fun x hx=>by
   rcases List.mem_append.1 hx with e|e
   ·have:=k.bd x e;omega
   ·rw[List.mem_singleton]at e
    have:=k.good.img.inv.len
    omega
  have H2:=aLa H (m.h.N 8).toNat (m.h.N 9+1) real mono K (Mk.dataAll m (listL L)).1.b.length
  have o:DG (Mk.dataAll m (listL L)).1 (Mk.entered m (listL L) real mono K):=
   ((aLb _ _).trans (aLc _ _ _)).trans ((aEZ _ _ _).trans (aO6 _ _ _ _ _ _ _))
  have d:DG m (Mk.entered m (listL L) real mono K):=s.trans o
  have j:(Mk.entered m (listL L) real mono K).h.N 9=m.h.N 9+1:=by
   show(Mk.told _ _ _ _ _ _ _).h.N 9=_
   rw[aEV _ _ _ _ _ _ _ _ (by decide),if_neg (by decide),if_neg (by decide),if_pos rfl]
  have Z:=q.base
  have J:=q.top
  refine⟨Y,_,_,_,⟨H2,D,?_,?_,?_,?_,B,?_⟩,⟨?_,?_,fun i g=>?_,?_,?_,?_,?_⟩⟩
  ·rw[e8,k.n8,yA];rfl
  ·rw[yA,yA,k.len];rfl
  ·show(Mk.told _ _ _ _ _ _ _).h.N 11=((Mk.told _ _ _ _ _ _ _).main.headD 0:Nat)
   rw[aEV _ _ _ _ _ _ _ _ (by decide),if_neg (by decide),if_neg (by decide),if_neg (by decide),if_neg (by omega),if_neg (by omega)]
   exact v
  ·rw[List.pairwise_append]
   refine⟨k.rise,by simp,fun a ha2 b hb2=>?_⟩
   rw[List.mem_singleton]at hb2
   have:=k.bd a ha2
   omega
  ·rw[List.map_append,k.ent];rfl
  ·rw[yA,yA,q.len];rfl
  ·rw[d.ic,d.C];exact q.ic
  ·rw[d.I i g,d.C];exact q.I i g
  ·rw[j,yA,List.length_singleton];push_cast;omega
  ·rw[j];omega
  ·intro r u
   rcases List.mem_append.1 u with e|e
   ·exact q.ok r e
   ·rw[List.mem_singleton]at e
    subst e
    exact⟨f,hP,hr,hm,hK⟩
  ·intro i g R
   rw[j,yA,List.length_singleton]
   by_cases c:i<rs.length
   ·rw[List.getElem_append_left c,List.getElem_append_left (by have:=q.len;omega)]
    have h3:=(q.ent i c (by have:=q.len;omega)).dg d
    rw[show m.h.N 9+1-((rs.length+1:Nat):Int)+(i:Int)+1=m.h.N 9-(rs.length:Int)+(i:Int)+1 by push_cast;omega]
    exact h3
   ·have A:i=rs.length:=by rw[yA,List.length_singleton]at g;omega
    subst A
    have hl:=q.len
    rw[List.getElem_append_right (yR _),List.getElem_append_right (by omega)]
    have M:EntR (Mk.dataAll m (listL L)).1 (m.h.N 9+1) (L,real,mono,K) (entB (m.h.N 9+1) real mono K ((xr ((listL L).map fun q=>pay q.1 q.2):Nat):Int) (prs (fun i=>((Mk.kn (Mk.dataAll m (listL L)).1 ((Mk.dataAll m (listL L)).2.getD i 0)).at_:Int)) (fun i=>Mk.sum (Mk.dataAll m (listL L)).1 (Mk.kn (Mk.dataAll m (listL L)).1 ((Mk.dataAll m (listL L)).2.getD i 0)).text) (Mk.dataAll m (listL L)).2.length)):=
     ⟨_,F,n,l,rfl⟩
    have V:=M.dg o
    rw[show m.h.N 9+1-((rs.length+1:Nat):Int)+(rs.length:Int)+1=m.h.N 9+1 by push_cast;omega]
    simpa using V
end Zj
namespace Ra
open Bytes8 Blk8 OwnE Ga Gb Ma Mb Na Nt Nu
open Go1 (HTold)
theorem aE0 (h:HD):(Tryz.prog.info? 165).map (·.size)=some (h.cells 21).length:=by rw[aIY];simp[HD.len]
theorem whole {w:World}{g:Nat}{T:TypeId}{h:HD}{m:Nat}(a:Blk w g (h.cells m) T):w.rangeAt g 0 (h.cells m):=fun j v hj=>by rw[Nat.zero_add];exact a.cell hj
theorem aOg (A:Option Addr)(len a b:Nat)(e:b≤a)(f:b≤1000000)(w:World):
 (Instr.slice 26 (.slice A len a) none (some (.int .u64 (b:Int))) none).run Tryz.prog w= .ok (.slice (cutA A a 0) b a) w:=by
 have d:Tryz.prog.underlying 26=some (.slice (Tryz.prog.elem 26)):=by rw[aDy];exact Tryz.underlying26
 rw[run_slice_h w 26 A len a d .u64 b (by omega) (by omega),aDy,aDc]
 unfold sliced cutA
 by_cases c:a=0
 ·simp[c]
 ·simp[c]
def viewC (h:HD)(b:Value):List Value:=h.cells 21++ [b]
theorem aJF (h:HD)(b:Value)(A:Option Addr)(n c:Nat)(e:b= .slice A n c):Tryz.prog.built 171 [(0,.agg (h.cells 21).toArray),(1,b)]=some (viewC h b).toArray:=by subst e;kernel_rfl
def bldV (parts:Array (Nat×Value)):Sem Value:=Instr.build 171 parts
theorem aGE (a:Array (Nat×Value)):Instr.build 171 a=bldV a:=rfl
theorem aJG (h:HD)(A:Option Addr)(n c:Nat)(w:World):(bldV #[(0,.agg (h.cells 21).toArray),(1,.slice A n c)]).run Tryz.prog w= .ok (.agg (viewC h (.slice A n c)).toArray) w:=by
 unfold bldV
 exact run_build w _ _ _ (aJF h _ A n c rfl)
attribute [local irreducible] HD.cells wpList Code.wp
attribute [local go_sem ↓] aGE
end Ra
namespace Lk
open Bytes8 Blk8 Own8 OwnE Rows2 Ga Gb Ma Mb Na Ra
attribute [local irreducible] HD.cells wpList Code.wp
theorem aLg {w:World}{a:Nat}{h:HD}{b:Value}(c:Blk w a (viewC h b) 171):w.rangeAt a 0 (h.cells 21):=fun j x hj=>by
 rw[Nat.zero_add]
 refine c.cell ?_
 unfold viewC
 rw[List.getElem?_append_left (List.getElem?_eq_some_iff.1 hj).1]
 exact hj
theorem aEk {c:Nat}{h:HD}{b:Value}(w:World)(a:Blk w c (viewC h b) 171):Calls Tryz.prog 83 #[.pointer (some ⟨c,0,none⟩)] w fun e w'=>e= .returned (.agg (h.cells 21).toArray)∧Below w.heap.size w w':=by
 have d:=yH ((yB w.heap.size w).alloc (yR _) (.cells Tryz.zeroCells165 165))
 have f:=yH (aLg (a.below d.out a.lt))
 have Z:=yH (heap_alloc_new w (.cells Tryz.zeroCells165 165))
 clear a
 go_enter Tryz.func83,Tryz.ntmps83
 go_wp2_with(first
  |((with_reducible apply aAb 6);refine wpList_load_mid rfl 165 (.tmp 5) rfl c 0 rfl (h.cells 21) _ f.out Tryz.underlying165 rfl (aE0 _) ?_)
  |((with_reducible apply aAa (.tmp 2) (.tmp 6));refine wpList_store_row rfl 165 (.tmp 2) (.tmp 6) rfl w.heap.size (h.cells 21).toArray rfl rfl 165 Tryz.zeroCells165 Z.out (aAf _) aAB (HD.one _ 21) ?_)
  |fail)
 refine bodyPost_ret (v:= .agg (h.cells 21).toArray) (by exact results_cell_row Tryz.results83 _ _ w.heap.size 165 _ (0,0) _ rfl (setRow_heap _ w.heap.size _ _ _ (0,0) Z.out) Tryz.underlying165 rfl (aAf _)) rfl ?_
 exact⟨rfl,below_setRow d.out (yR _) _⟩
end Lk
namespace Rc
open Bytes8 Blk8 Own8 OwnE Rows2 Ga Gb Ra
abbrev haltE (c:Int):PanicEntry:={v:= .iface 296 (.int .i64 c),recovered:=false}
attribute [local irreducible] wpList Code.wp
theorem aA4 (c:Int)(w:World):Calls Tryz.prog 178 #[.bool true,.int .i64 c] w fun e w'=>e= .returned (.tuple #[])∧w=w':=by
 go_enter Tryz.func178,Tryz.ntmps178
 go_wp2
 go_end0
 exact⟨rfl,rfl⟩
theorem aBF (c:Int)(w:World):Calls Tryz.prog 178 #[.bool false,.int .i64 c] w fun e w'=>e= .panicked [haltE c]∧w=w':=by
 go_enter Tryz.func178,Tryz.ntmps178
 go_wp2
 exact⟨rfl,rfl,rfl⟩
structure ViewAt (w:World)(gv:Nat)(h:HD)(A:Option Addr)(n c:Nat)(l:List Int):Prop where
 blk:Blk w gv (viewC h (.slice A n c)) 171
 by_:Bytes w A l
 len:l.length=n
 cap:n≤c
 big:n≤1000000
 ok:h.Ok 21
theorem ViewAt.below {w w':World}{a:Nat}{h:HD}{A:Option Addr}{n c:Nat}{l:List Int}(v:ViewAt w a h A n c l)(b:Below w.heap.size w w'):ViewAt w' a h A n c l:=
 ⟨v.blk.below b v.blk.lt,v.by_.below b (yR _),v.len,v.cap,v.big,v.ok⟩
theorem aOh (h:HD)(b:Value)(i:Nat)(a:i<21):(viewC h b)[67+i]? =some (.int .u64 (h.N i)):=by
 unfold viewC
 rw[List.getElem?_append_left (by rw[HD.len];omega)]
 exact h.get_N 21 i a
theorem aLh (h:HD)(b:Value):(viewC h b)[91]? =some b:=by
 unfold viewC
 rw[List.getElem?_append_right (by rw[HD.len];omega),HD.len]
 rfl
theorem aFE {a:Nat}{h:HD}{A:Option Addr}{n c:Nat}{l:List Int}(w:World)(v:ViewAt w a h A n c l):Calls Tryz.prog 157 #[.pointer (some ⟨a,0,none⟩)] w fun e w'=>e= .returned (.int .u64 (n:Int))∧w=w':=by
 have b:=v.blk.cell (aLh _ _)
 have f:=v.big
 have d:IntKind.u64.wrap (n:Int)=(n:Int):=by rw[IntKind.wrap_u64];omega
 clear v
 go_enter Tryz.func157,Tryz.ntmps157
 go_wp2
 go_ret
 exact⟨rfl,rfl⟩
theorem aFF {a:Nat}{h:HD}{A:Option Addr}{n c:Nat}{l:List Int}(at_:Int)(w:World)(v:ViewAt w a h A n c l)(g:h.N 0≤at_)(b:at_<(n:Int)):Calls Tryz.prog 188 #[.pointer (some ⟨a,0,none⟩),.int .u64 at_] w fun e w'=>e= .returned (.slice A n c)∧w=w':=by
 have i:=v.blk.cell (aLh _ _)
 have f:w.cell? ⟨a,67,none⟩=some (.int .u64 (h.N 0)):=v.blk.cell (aOh _ _ 0 (by decide))
 have j:=yH (aFE w v)
 have d:=yH (aA4 2)
 have m:decide (h.N 0≤at_)=true:=by simpa using g
 have k:decide (at_<(n:Int))=true:=by simpa using b
 clear v
 go_enter Tryz.func188,Tryz.ntmps188
 go_wp2_with(first
  |(go_at_call 157;(refine j.out.mono ?_);rintro e w1 ⟨rfl,rfl⟩)
  |(go_at_call 178;(refine(d.out _).mono ?_);rintro e w1 ⟨rfl,rfl⟩)
  |fail)
 go_ret
 exact⟨rfl,rfl⟩
theorem aHE {a:Nat}{h:HD}{A:Option Addr}{n c:Nat}{l:List Int}(at_:Int)(w:World)(v:ViewAt w a h A n c l)(f: ¬(h.N 0≤at_∧at_<(n:Int))):Calls Tryz.prog 188 #[.pointer (some ⟨a,0,none⟩),.int .u64 at_] w fun e w'=>e= .panicked [haltE 2]∧w=w':=by
 have j:=v.blk.cell (aLh _ _)
 have g:w.cell? ⟨a,67,none⟩=some (.int .u64 (h.N 0)):=v.blk.cell (aOh _ _ 0 (by decide))
 have k:=yH (aFE w v)
 have b:=yH (aBF 2)
 clear v
 by_cases d:h.N 0≤at_
 ·have i:decide (h.N 0≤at_)=true:=by simpa using d
  have m:decide (at_<(n:Int))=false:=by simp;omega
  have o: ¬at_<(n:Int):=by omega
  clear f
  go_enter Tryz.func188,Tryz.ntmps188
  go_wp2_with(first
   |(go_at_call 157;(refine k.out.mono ?_);rintro e w1 ⟨rfl,rfl⟩)
   |(go_at_call 178;(refine(b.out _).mono ?_);rintro e w1 ⟨rfl,rfl⟩)
   |fail)
  exact⟨rfl,rfl,rfl⟩
 ·have i:decide (h.N 0≤at_)=false:=by simpa using d
  clear f
  go_enter Tryz.func188,Tryz.ntmps188
  go_wp2_with(first
   |(go_at_call 178;(refine(b.out _).mono ?_);rintro e w1 ⟨rfl,rfl⟩)
   |fail)
  exact⟨rfl,rfl,rfl⟩
end Rc
end Go.Proofs.YteaikbodkgjkdaaGreat
