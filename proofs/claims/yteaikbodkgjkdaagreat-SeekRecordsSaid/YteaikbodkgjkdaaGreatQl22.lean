/-
  Texts beneath.
-/
import Derived.Test.YteaikbodkgjkdaaGreatQl21
set_option linter.unusedVariables false
set_option linter.unusedSimpArgs false
set_option maxRecDepth 100000
set_option maxHeartbeats 1000000
open Go.ChangeShapes Go.WideShapes Go.ChangeAt Go.RowKit
namespace Go.Proofs.YteaikbodkgjkdaaGreat
namespace Nh
open Bytes8 Blk8 Own8 OwnA OwnE Rows2 Ob Od Ga Ma Kf Mb Mc Md Mf Mg Fa Fb Dc Yc Yd Na Nb Nc Nd Nf Hm Se Ya Pr8 Pl8
def Mk.kn (m:Mk)(i:Nat):Kn:=m.datas.getD i ⟨[],0,0,0,[]⟩
def posW (f:Nat→Nat)(x:Nat)(who:List Nat):Nat→Nat
 |0=>0
 |j+1=>if x<f (who.getD j 0)then posW f x who j else j+1
theorem aHr (f:Nat→Nat)(x:Nat)(who:List Nat): ∀j,posW f x who j≤j
 |0=>yR _
 |j+1=>by
  unfold posW
  split
  ·exact Nat.le_trans (aHr f x who j) (Nat.le_succ _)
  ·exact yR _
def insW (f:Nat→Nat)(who:List Nat)(k:Nat):List Nat:=who.take (posW f (f k) who who.length)++k::who.drop (posW f (f k) who who.length)
theorem aM0 (f:Nat→Nat)(who:List Nat)(k:Nat):(insW f who k).length=who.length+1:=by
 have:=aHr f (f k) who who.length
 unfold insW
 rw[yA,List.length_cons,List.length_take,List.length_drop]
 omega
theorem aM1 {f:Nat→Nat}{who:List Nat}{k x:Nat}(h:x∈insW f who k):x=k∨x∈who:=by
 unfold insW at h
 rcases List.mem_append.1 h with h|h
 ·exact .inr (List.mem_of_mem_take h)
 ·rcases List.mem_cons.1 h with h|h
  ·exact .inl h
  ·exact .inr (List.mem_of_mem_drop h)
def dataStep (s:Mk×List Nat)(q:PR):Mk×List Nat:=
 let r:=Mk.dataOf s.1 q.1 (pay q.1 q.2)
 (r.2,insW (fun i=>(Mk.kn r.2 i).at_) s.2 r.1)
def Mk.dataAll (m:Mk)(l:List PR):Mk×List Nat:=l.foldl dataStep (m,[])
theorem aA0 (m:Mk)(l:List PR)(k:Nat)(h:k<l.length):Mk.dataAll m (l.take (k+1))=dataStep (Mk.dataAll m (l.take k)) l[k]:=by
 unfold Mk.dataAll
 rw[List.take_succ_eq_append_getElem h,List.foldl_append]
 rfl
theorem aGk {l:List Kn}{s:List Int}{i:Nat}(h:idxK l s=some i):i<l.length:=by
 unfold idxK at h
 exact(List.findIdx?_eq_some_iff_getElem.1 h).1
structure DKeeps (m m':Mk):Prop where
 C:m'.C=m.C
 main:m'.main=m.main
 n8:m'.h.N 8=m.h.N 8
 n9:m'.h.N 9=m.h.N 9
 len:m.b.length≤m'.b.length
 datas:m.datas.length≤m'.datas.length
theorem DKeeps.refl (m:Mk):DKeeps m m:=⟨rfl,rfl,rfl,rfl,yR _,yR _⟩
theorem DKeeps.trans {a b c:Mk}(h:DKeeps a b)(k:DKeeps b c):DKeeps a c:=⟨k.C.trans h.C,k.main.trans h.main,k.n8.trans h.n8,k.n9.trans h.n9,Nat.le_trans h.len k.len,Nat.le_trans h.datas k.datas⟩
theorem aC1 {m:Mk}(h:Inv m)(a s:List Int)(q:AllB a)(c:a.length≤64)(hs:AllB s)(d:s.length≤400):
 Inv (Mk.dataOf m a s).2∧(Mk.dataOf m a s).1<(Mk.dataOf m a s).2.datas.length∧(Mk.dataOf m a s).2.b.length≤m.b.length+600∧DKeeps m (Mk.dataOf m a s).2:=by
 unfold Mk.dataOf
 cases e:idxK m.datas s with
 |some i=>exact⟨h,aGk e,Nat.le_add_right _ _,DKeeps.refl _⟩
 |none=>
  obtain⟨l,k,p,f,o,g,n,j⟩:=aCb h a s q c hs d
  refine⟨l,?_,p,o,g,n,j,k,?_⟩
  ·show m.datas.length<(Mk.dataNew m a s).datas.length
   rw[f,yA,List.length_singleton]
   exact Nat.lt_succ_self _
  ·show m.datas.length≤(Mk.dataNew m a s).datas.length
   rw[f,yA]
   exact Nat.le_add_right _ _
theorem aAs {m:Mk}(h:Inv m)(l:List PR)(d: ∀q∈l,AllB q.1∧AllB q.2∧q.1.length≤64∧q.2.length≤256): ∀k,k≤l.length→
 Inv (Mk.dataAll m (l.take k)).1∧(Mk.dataAll m (l.take k)).2.length=k∧(∀x∈(Mk.dataAll m (l.take k)).2,x<(Mk.dataAll m (l.take k)).1.datas.length)∧(Mk.dataAll m (l.take k)).1.b.length≤m.b.length+600*k∧DKeeps m (Mk.dataAll m (l.take k)).1
 |0,_=>by
  refine⟨h,rfl,?_,yR _,DKeeps.refl _⟩
  intro x a
  exact absurd a (List.not_mem_nil)
 |k+1,hk=>by
  obtain⟨h1,h2,h3,h4,h5⟩:=aAs h l d k (by omega)
  obtain⟨e,n,j,p⟩:=d l[k] (List.getElem_mem _)
  have f:(pay l[k].1 l[k].2).length≤400:=by rw[Nee.pay_len];omega
  obtain⟨i,g,o,c⟩:=aC1 h1 l[k].1 (pay l[k].1 l[k].2) e j (aBr e n) f
  rw[aA0 m l k (by omega)]
  refine⟨i,?_,?_,?_,h5.trans c⟩
  ·show(insW _ _ _).length=_
   rw[aM0,h2]
  ·intro x a
   rcases aM1 a with rfl|a
   ·exact g
   ·exact yL (h3 x a) c.datas
  ·show(Mk.dataOf _ _ _).2.b.length≤_
   omega
def Mk.eobj (m:Mk)(who:List Nat)(ps:List (List Int))(seq real mono:Int)(boot:Nat→Int):List Int:=
 objB 3 (entB seq real mono boot ((xr ps:Nat):Int) (prs (fun i=>((Mk.kn m (who.getD i 0)).at_:Int)) (fun i=>Mk.sum m (Mk.kn m (who.getD i 0)).text) who.length))
def Mk.linked (m:Mk)(at_:Nat)(n:Nat):Mk:=
 let r:=Mk.link m m.main n 176 at_
 {r.1 with main:=r.2.1,h:={setN r.1.h 11 ((r.2.1.getD 0 0:Nat):Int)with ta:=((r.2.1.getLastD 0:Nat):Int),ti:=((r.2.2:Nat):Int)}}
def Mk.mark (e:Nat)(m:Mk)(j:Nat):Mk:=
 let d:=Mk.kn m j
 let r:Mk×List Nat:=if d.count=0 then({m with b:=put8 m.b (d.at_+40) e},d.arrays)else((Mk.link m d.arrays (d.count-1) (d.at_+48) e).1,(Mk.link m d.arrays (d.count-1) (d.at_+48) e).2.1)
 {r.1 with b:=put8 r.1.b (d.at_+56) ((d.count+1:Nat):Int),datas:=r.1.datas.set j {d with count:=d.count+1,arrays:=r.2}}
def Mk.markAll (e:Nat)(m:Mk)(who:List Nat):Mk:=who.foldl (Mk.mark e) m
theorem aBk (e:Nat)(m:Mk)(who:List Nat)(k:Nat)(h:k<who.length):Mk.markAll e m (who.take (k+1))=Mk.mark e (Mk.markAll e m (who.take k)) who[k]:=by
 unfold Mk.markAll
 rw[List.take_succ_eq_append_getElem h,List.foldl_append]
 rfl
def Mk.grown (m:Mk)(l:List PR)(real mono:Int)(boot:Nat→Int):Mk:=
 let s:=Mk.dataAll m l
 let m2:=s.1.object (Mk.eobj s.1 s.2 (l.map fun q=>pay q.1 q.2) (m.h.N 9+1) real mono boot)
 Mk.markAll s.1.b.length (Mk.linked m2 s.1.b.length (m.h.N 8).toNat) s.2
def Mk.told (m:Mk)(n:Nat)(seq real mono:Int)(boot:Nat→Int)(te:Nat):Mk:=
 let h1:=if n=0 then setN (setN m.h 10 seq) 12 real else m.h
 let h2:=setN h1 8 (h1.N 8+1)
 let h3:=setN (setN (setN h2 9 seq) 13 real) 14 mono
 {m with h:={h3 with I:=fun i=>if 32≤i∧i<48 then boot (i-32)else h3.I i,te:=(te:Int)}}
def Mk.entered (m:Mk)(l:List PR)(real mono:Int)(boot:Nat→Int):Mk:=
 Mk.told (Mk.grown m l real mono boot) (m.h.N 8).toNat (m.h.N 9+1) real mono boot (Mk.dataAll m l).1.b.length
def Mk.acode (m:Mk)(raw:List PR)(real mono:Int)(boot:Nat→Int):Int:=
 if listE raw≠0 then listE raw else if m.h.N 9=18446744073709551615 then 1 else if m.C.most<(Mk.grown m (listL raw) real mono boot).b.length then 15 else 0
def Mk.after (m:Mk)(raw:List PR)(real mono:Int)(boot:Nat→Int):Mk:=if Mk.acode m raw real mono boot=0 then Mk.entered m (listL raw) real mono boot else m
structure Side (E:TypeId)(size:Nat)(w:World)(g:Nat)(p:Pl)(b0:Nat)(A:Option Addr)(n c:Nat)(xs:List Value):Prop where
 own:OwnE E size w b0 A n c xs
 off: ∀k,ownB A=some k→ ¬p.foot g k
theorem Side.path {E:TypeId}{size:Nat}{w w':World}{g:Nat}{p p':Pl}{b0:Nat}{A:Option Addr}{n c:Nat}{xs:List Value}(h:Side E size w g p b0 A n c xs)(k:Path g p w p' w'):Side E size w' g p' b0 A n c xs:=
 ⟨Mf.OwnE.keptF h.own k.kept h.off,fun j hj h2=>(k.foot j h2).elim (h.off j hj) (fun h3=>by have:=(OwnE.ltB h.own j hj).2;omega)⟩
theorem Side.below {E:TypeId}{size:Nat}{w w':World}{g:Nat}{p:Pl}{b0:Nat}{A:Option Addr}{n c:Nat}{xs:List Value}(h:Side E size w g p b0 A n c xs)(a:Below w.heap.size w w'):Side E size w' g p b0 A n c xs:=
 ⟨h.own.kept a (yR _),h.off⟩
def Pays (w:World)(g:Nat)(p:Pl)(A:Option Addr)(xs:List Value)(P:List (List Int)):Prop:=
 xs.length=P.length∧ ∀r (h:r<P.length),∃b c,xs[r]? =some (.slice (some ⟨b,0,none⟩) P[r].length c)∧Bytes w (some ⟨b,0,none⟩) P[r]∧b<w.heap.size∧ ¬p.foot g b∧ownB A≠some b
theorem aBc {w w':World}{b:Nat}{l:List Int}(h:Bytes w (some ⟨b,0,none⟩) l)(hs:w.heap.size≤w'.heap.size)(f:w'.heap[b]? =w.heap[b]?):Bytes w' (some ⟨b,0,none⟩) l:=
 ⟨h.1,fun i hi=>by
   obtain⟨b2,c,e,d,g⟩:=h.2 i hi
   injection e with e
   injection e with e1 e2
   subst e1
   exact⟨b,c,by rw[e2],yL d hs,(World.cell?_of_block (a:=⟨b,c+i,none⟩) f).trans g⟩⟩
theorem Pays.path {w w':World}{g:Nat}{p p':Pl}{A:Option Addr}{xs:List Value}{P:List (List Int)}(h:Pays w g p A xs P)(k:Path g p w p' w'):Pays w' g p' A xs P:=
 ⟨h.1,fun r hr=>by
   obtain⟨b,c,f,e,a,d,i⟩:=h.2 r hr
   exact⟨b,c,f,aBc e k.kept.size (k.kept.block b a d),yL a k.kept.size,fun h6=>(k.foot b h6).elim d (fun h7=>by omega),i⟩⟩
theorem Pays.below {w w':World}{g:Nat}{p:Pl}{A:Option Addr}{xs:List Value}{P:List (List Int)}(h:Pays w g p A xs P)(a:Below w.heap.size w w'):Pays w' g p A xs P:=
 ⟨h.1,fun r hr=>by
   obtain⟨b,c,i,e,d,f,j⟩:=h.2 r hr
   exact⟨b,c,i,aBc e a.size (a.block b d),yL d a.size,f,j⟩⟩
theorem Pays.push {w w':World}{g:Nat}{p:Pl}{A k:Option Addr}{xs:List Value}{P:List (List Int)}(h:Pays w g p A xs P)(i:w.grownBy w' (ownB A))(y:ownB k=ownB A∨ownB k=some w.heap.size)(b c:Nat)(l:List Int)(u:Bytes w (some ⟨b,0,none⟩) l)(d:b<w.heap.size)(t: ¬p.foot g b)(hne:ownB A≠some b):
 Pays w' g p k (xs++ [.slice (some ⟨b,0,none⟩) l.length c]) (P++ [l]):=by
 have a: ∀j,j<w.heap.size→ownB A≠some j→ownB k≠some j:=fun j hj f h2=>by
  rcases y with n|n
  ·exact f (n▸h2)
  ·rw[n]at h2
   injection h2 with h2
   omega
 refine⟨by rw[yA,yA,h.1];rfl,fun r hr=>?_⟩
 rw[yA,List.length_singleton]at hr
 rcases Nat.lt_or_ge r P.length with f|f
 ·obtain⟨b2,s,v,z,o,x,q⟩:=h.2 r f
  refine⟨b2,s,?_,?_,yL o i.size,x,a b2 o q⟩
  ·rw[List.getElem_append_left f,List.getElem?_append_left (by rw[h.1];exact f),v]
  ·rw[List.getElem_append_left f]
   exact aBc z i.size (i.block b2 o (fun e=>q e.symm))
 ·have m:r=P.length:=by omega
  subst m
  refine⟨b,c,?_,?_,yL d i.size,t,a b d hne⟩
  ·rw[List.getElem_append_right (yR _),List.getElem?_append_right (by rw[h.1];exact yR _),h.1]
   simp
  ·rw[List.getElem_append_right (yR _)]
   simp only[Nat.sub_self,List.getElem_singleton]
   exact aBc u i.size (i.block b d (fun e=>hne e.symm))
theorem aFw {w:World}{F G:Nat→Prop}{v:Value}{l:List Nat}(h:Arr w F v l)(k:Arr w G v l):Arr w (fun b=>F b∨G b) v l:=by
 obtain⟨A,n,c,e,g,h⟩:=h
 obtain⟨r,n2,q,f,_,k⟩:=k
 rw[e]at f
 injection f with e3 e4 e5
 subst e3
 refine⟨A,n,c,e,g,fun i hi=>?_⟩
 obtain⟨b,d,j,m,p⟩:=h i hi
 obtain⟨b2,a,_,o,_⟩:=k i hi
 rw[d]at a
 injection a with a
 injection a with a
 subst a
 exact⟨b,d,j,fun h=>h.elim m o,p⟩
theorem aIv {w:World}{F G:Nat→Prop}{v:Value}{l:List Nat}(h:Arr w F v l)(a: ∀b,b<w.heap.size→ ¬F b→ ¬G b):Arr w G v l:=h.kept (KeptF.refl (fun _=>False) w) (fun _ _ _ h=>h) a
structure Low (w:World)(b2:Nat)(p:Pl)(m:Mk):Prop where
 da: ∀q∈p.dl,Arr w (fun k=>b2≤k) q.2 q.1.arrays
 ma:Arr w (fun k=>b2≤k) p.M m.main
theorem At.low {w:World}{B g b2:Nat}{p:Pl}{m:Mk}(h:At w B g p m)(a:w.heap.size≤b2):Low w b2 p m:=
 ⟨fun q hq=>aIv (h.da q hq) fun b h1 _ h2=>absurd h1 (by omega),aIv h.ma fun b h1 _ h2=>absurd h1 (by omega)⟩
theorem Low.path {w w':World}{B g b2:Nat}{p p':Pl}{m m':Mk}(h:Low w b2 p m)(a:At w B g p m)(k:Path g p w p' w')(c: ∀x∈p'.dl,x∈p.dl∨(x.2= .slice none 0 0∧x.1.arrays=[]))(e:p'.M=p.M)(d:m'.main=m.main):Low w' b2 p' m':=
 ⟨fun q hq=>(c q hq).elim (fun h1=>(aFw (h.da q h1) (a.da q h1)).kept k.kept (fun b _ h2 h3=>h2 (.inr (.inl h3))) (fun b _ h2 h3=>h2 (.inl h3))) (fun h1=>by rw[h1.1,h1.2];exact Arr.nil _ _),
  by rw[e,d];exact(aFw h.ma a.ma).kept k.kept (fun b _ h2 h3=>h2 (.inr (.inl h3))) (fun b _ h2 h3=>h2 (.inl h3))⟩
theorem At.offA {w w':World}{B g b2:Nat}{p:Pl}{m:Mk}{G:Nat→Prop}(h:At w B g p m)(d:Low w b2 p m)(hk:KeptF G w w')(c: ∀k,G k→b2≤k∧ ¬p.foot g k):At w' B g p m∧Low w' b2 p m:=by
 have a: ∀k,p.foot g k→ ¬G k:=fun k hf hg=>(c k hg).2 hf
 refine⟨{st:=⟨Kf.Blk.keptF h.st.st hk (a _ (.inl rfl)),Kf.Own.keptF h.st.own hk (fun k hk'=>a k (.inr (.inl (by injection hk' with e;exact e.symm)))),h.st.ne⟩
         dr:=Mf.OwnE.keptF h.dr hk (fun k e=>a k (.inr (.inr (.inl e))))
         fr:=Mf.OwnE.keptF h.fr hk (fun k e=>a k (.inr (.inr (.inr e))))
         dm:=h.dm,fm:=h.fm
         da:=fun q hq=>(aFw (h.da q hq) (d.da q hq)).kept hk (fun b _ h1 h2=>h1 (.inr (c b h2).1)) (fun b _ h1 h2=>h1 (.inl h2))
         ma:=(aFw h.ma d.ma).kept hk (fun b _ h1 h2=>h1 (.inr (c b h2).1)) (fun b _ h1 h2=>h1 (.inl h2))
         dg:=h.dg,fg:=h.fg,df:=h.df,gB:=h.gB,fo:=h.fo},?_⟩
 exact⟨fun q hq=>(d.da q hq).kept hk (fun b _ h1 h2=>h1 (c b h2).1) (fun b _ h1 h2=>h1 h2),d.ma.kept hk (fun b _ h1 h2=>h1 (c b h2).1) (fun b _ h1 h2=>h1 h2)⟩
theorem Path.side {w2 w w':World}{g:Nat}{p a:Pl}{G:Nat→Prop}(h:Path g p w2 a w)(b:KeptF G w w')(c: ∀k,G k→w2.heap.size≤k):Path g p w2 a w':=⟨h.foot,h.kept.trans b fun i hi h2=>absurd (c i h2) (by omega)⟩
def iv (l:List Nat):List Value:=l.map fun(x:Nat)=> .int .i64 (x:Int)
theorem aEU (l:List Nat):(iv l).length=l.length:=by simp[iv]
theorem aCI (l:List Nat): ∀u∈iv l,u.oneCell'=true:=fun u hu=>by
 obtain⟨x,_,rfl⟩:=List.mem_map.1 hu
 rfl
theorem intE:Elt 3 22 1 8 (.int .i64 0):=⟨Tryz.underlying22,by kernel_rfl,rfl,by decide⟩
theorem rowE:Elt 26 139 1 24 (.slice none 0 0):=⟨Tryz.underlying139,by kernel_rfl,rfl,by decide⟩
theorem aQr:Elt 145 138 2 16 (.agg #[.int .u64 0,.int .u64 0]):=⟨Tryz.underlying138,by kernel_rfl,rfl,by decide⟩
theorem aAn {E S:TypeId}{size d:Nat}{z:Value}(M:Elt E S size d z){w:World}{i:Array Oper}{o:Oper}{a:Act}{K:Act→World→Prop}{Q:Exit→Act→World→Prop}{F:Prop}(l:o.guard=none)(s x:Operand)
 (p:o.op= .call {callee:= .builtin .append,args:= #[s,x],argTypes:= #[S,S]})
 (base:Nat)(A:Option Addr)(n c:Nat)(xs:List Value)(hs:a.eval s= .slice A n c)(G:OwnE E size w base A n c xs)(t:Option Addr)(m v:Nat)(b:List Value)(L:a.eval x= .slice t m v)(N:Nat)(R:n+m=N)(H:b.length=m*size)
 (f: ∀j u,b[j]? =some u→ ∃ad,t=some ad∧w.cell? (ad.add j)=some u)(C: ∀u∈b,u.oneCell'=true)(q:N≤4611686018427387904)(e:N*d≤140737488355328)(r:N≤maxLen)
 (h: ∀g k w',OwnE E size w' base g N k (xs++b)→w.grownBy w' (ownB A)→(ownB g=ownB A∨ownB g=some w.heap.size)→K (a.put o.dst (.slice g N k)) w'):
 if Region.wanted o (yielded i a.tmps)=true then Oper.wp Tryz.prog o a w K Q else F:=by
 subst R
 have D:Region.wanted o (yielded i a.tmps)=true:=by simp[Region.wanted,l]
 rw[if_pos D]
 obtain⟨g,k,w',I,y,J,B⟩:=aBq M w o.type base A n c xs G t m v b H f C q e r
 unfold Oper.wp execOp
 simp only[p,resolve,invoke,builtin,Sem.run_bind,Sem.run_pure,Result.andThen_ok,List.map_toArray,List.map_cons,List.map_nil,hs,L,I]
 exact h g k w' y J B
theorem aIw {E:TypeId}{size:Nat}{w:World}{base n c:Nat}{A:Option Addr}{xs:List Value}(h:OwnE E size w base A n c xs):n≤c:=by
 rcases h.2.2 with⟨a,f⟩|⟨g,e,b,a,_,_,d,_⟩
 ·injection a with e1 e2 e3
  omega
 ·injection a with e1 e2 e3
  omega
theorem aEe {E:TypeId}{size:Nat}{w:World}{b b2 n c:Nat}{A:Option Addr}{xs:List Value}(h:OwnE E size w b A n c xs)(f:b2≤b):OwnE E size w b2 A n c xs:=by
 refine⟨Nat.le_trans f h.1,h.2.1,?_⟩
 rcases h.2.2 with d|⟨g,e,a,d,i,j,k⟩
 ·exact .inl d
 ·exact .inr ⟨g,e,a,d,Nat.le_trans f i,j,k⟩
theorem intI:(Tryz.prog.info? 3).map (fun i=>(i.zero,i.size,i.bytes))=some (some (.int .i64 0),1,8):=by kernel_rfl
theorem aKB (w:World):(sizeOf 3).run Tryz.prog w= .ok 1 w:=by
 obtain⟨i,b,a⟩:=Option.map_eq_some_iff.1 intI
 simp only[Prod.mk.injEq]at a
 simp[sizeOf,typeInfo,b,a]
theorem aM2:Tryz.prog.elem 22=3:=by kernel_rfl
theorem aPW (A:Option Addr)(len b c:Nat)(d:c≤b)(w:World):
 (Instr.slice 22 (.slice A len b) none (some (.int .i64 c)) none).run Tryz.prog w= .ok (.slice A c b) w:=by
 rw[run_slice_h w _ A len b (by rw[aM2];exact Tryz.underlying22) .i64 c (by omega) (by omega),aM2,aKB]
 cases A with
 |none=>simp[Result.andThen,sliced]
 |some a=>simp[Result.andThen,sliced,Addr.add]
theorem aPX (A:Option Addr)(len a b:Nat)(c:b≤len)(w:World):
 (Instr.slice 22 (.slice A len a) (some (.int .i64 b)) none none).run Tryz.prog w= .ok (.slice (cutA A a b) (len-b) (a-b)) w:=
 aEY _ A len a b w (by rw[aM2];exact aKB w) (by rw[aM2];exact Tryz.underlying22) c
theorem aKC {w:World}{base n c a:Nat}{A:Option Addr}{l:List Nat}(h:OwnE 3 1 w base A n c (iv l))(f:a≤n):(iv (l.take a)).length=a*1∧ ∀j u,(iv (l.take a))[j]? =some u→ ∃ad,A=some ad∧w.cell? (ad.add j)=some u:=by
 obtain⟨e,d⟩:=aFn h
 rw[aEU]at e
 refine⟨by rw[aEU,List.length_take];omega,fun j u hj=>d j u ?_⟩
 unfold iv at hj⊢
 rw[List.getElem?_map]at hj⊢
 obtain⟨x,b,rfl⟩:=Option.map_eq_some_iff.1 hj
 rw[List.getElem?_take]at b
 split at b
 ·rw[b];rfl
 ·cases b
theorem aKD {w:World}{base n c a:Nat}{A:Option Addr}{l:List Nat}(h:OwnE 3 1 w base A n c (iv l))(k:a≤n):(iv (l.drop a)).length=(n-a)*1∧ ∀j u,(iv (l.drop a))[j]? =some u→ ∃ad,cutA A c a=some ad∧w.cell? (ad.add j)=some u:=by
 obtain⟨g,m⟩:=aFn h
 rw[aEU]at g
 refine⟨by rw[aEU,List.length_drop];omega,fun j u hj=>?_⟩
 have e:j<(l.drop a).length:=by
  have:=(List.getElem?_eq_some_iff.1 hj).1
  rw[aEU]at this
  exact this
 rw[List.length_drop]at e
 have f:=aIw h
 have d:(iv l)[a+j]? =some u:=by
  rw[←hj]
  unfold iv
  rw[List.getElem?_map,List.getElem?_map,List.getElem?_drop]
 obtain⟨b,rfl,_,_,i⟩:=OwnE.cell h (List.getElem?_eq_some_iff.1 d).1
 refine⟨⟨b,a,none⟩,?_,?_⟩
 ·rw[aCN,if_neg (by omega),Nat.zero_add]
 ·rw[aAV,i,d]
theorem aGl (w:World)(base:Nat)(h:base≤w.heap.size):OwnE 3 1 (w.alloc (.cells #[] 3)) base (some ⟨w.heap.size,0,none⟩) 0 0 []:=
 ⟨Nat.le_trans h (by simp),World.ownsRow_lit w #[] 0 h (by decide) rfl⟩
theorem aEf {w:World}{base n c:Nat}{A:Option Addr}{l:List Nat}(h:OwnE 3 1 w base A n c (iv l))(i:Nat)(a:i<l.length): ∃b,A=some ⟨b,0,none⟩∧w.cell? ⟨b,i,none⟩=some (.int .i64 ((l.getD i 0:Nat):Int)):=by
 obtain⟨b,e,g,f,d⟩:=h.cell (i:=i) (by rw[aEU];exact a)
 refine⟨b,e,d.trans ?_⟩
 simp[iv,yD,yG a]
def itv (f h:Nat→Int)(n:Nat):List Value:=(List.range n).flatMap fun i=>[.int .u64 (f i),.int .u64 (h i)]
theorem aFx (f h:Nat→Int)(n:Nat):itv f h (n+1)=itv f h n++ [.int .u64 (f n),.int .u64 (h n)]:=by simp[itv,List.range_succ,List.flatMap_append]
theorem aCg (f h:Nat→Int)(n:Nat):(itv f h n).length=n*2:=by
 induction n with
 |zero=>rfl
 |succ n ih=>rw[aFx,yA,ih];simp;omega
theorem aPY (f h:Nat→Int)(n i:Nat)(b:i<n):(itv f h n)[i*2]? =some (.int .u64 (f i))∧(itv f h n)[i*2+1]? =some (.int .u64 (h i)):=by
 induction n with
 |zero=>omega
 |succ n ih=>
  rw[aFx]
  rcases Nat.lt_or_ge i n with a|a
  ·rw[List.getElem?_append_left (by rw[aCg];omega),List.getElem?_append_left (by rw[aCg];omega)]
   exact ih a
  ·obtain rfl:i=n:=by omega
   rw[List.getElem?_append_right (by rw[aCg];omega),List.getElem?_append_right (by rw[aCg];omega),aCg]
   rw[Nat.sub_self,show i*2+1-i*2=1 by omega]
   exact⟨rfl,rfl⟩
theorem own_in2 {w:World}{base n c:Nat}{A:Option Addr}{f h:Nat→Int}(d:OwnE 145 2 w base A n c (itv f h n))(e: ∀i,i<n→0≤f i∧f i≤18446744073709551615)(g: ∀i,i<n→0≤h i∧h i≤18446744073709551615):In2 w A n f h:=fun i hi=>by
 obtain⟨l,o⟩:=aPY f h n i hi
 obtain⟨b,rfl,_,k,j⟩:=OwnE.cell d (i:=i*2) (by rw[aCg];omega)
 obtain⟨b2,a,_,_,m⟩:=OwnE.cell d (i:=i*2+1) (by rw[aCg];omega)
 injection a with a
 injection a with a
 subst a
 exact⟨b,0,rfl,k,by rw[Nat.zero_add,j,l],by rw[Nat.zero_add,m,o],e i hi,g i hi⟩
attribute [local irreducible] Mk.cells wpList Code.wp
theorem aM3 (b0 n t g:Nat)(p:Pl)(A:Option Addr)(xs:List Value)(P:List (List Int))(w:World)(y:OwnE 26 1 w b0 A n t xs)(h:Pays w g p A xs P)(M:n≤1000000)(F: ∀l∈P,l.length≤800000):
 Calls Tryz.prog 70 #[.slice A n t] w fun e w'=>e= .returned (.int .u64 ((xr P:Nat):Int))∧w=w':=by
 have j:P.length=n:=by have:=y.len;rw[h.1,Nat.mul_one]at this;exact this
 obtain⟨m,r⟩: ∃f:Nat→List Int,∀i,f i=P.getD i []:=⟨_,fun i=>rfl⟩
 have z:rowsL m n=P:=by
  apply List.ext_getElem
  ·simp[rowsL,j]
  ·intro i L E;simp[rowsL,r,yD,yG E]
 have G:=yH y
 have B:=yH h
 have u:=yH j
 have z:=yH z
 clear h y j
 go_enter Tryz.func70,Tryz.ntmps70
 go_wp2
 go_loopw [3,4] (fun s i wr=> ∃k:Nat,k≤n∧i= .int .i64 (k:Int)∧s= .int .u64 ((xr (rowsL m k):Nat):Int)∧wr=w) (fun _ i _=>n-(intOf i).toNat)
 case atStart=>exact⟨0,Nat.zero_le _,rfl,rfl,rfl⟩
 case round=>
  obtain⟨k,J,rfl,rfl,rfl⟩:=hrel
  by_cases a:k<n
  ·obtain⟨b,c,C,x,N,R,I⟩:=B.out.2 k (by rw[u.out];exact a)
   obtain⟨b2,rfl,_,_,D⟩:=G.out.cell (i:=k) (by rw[B.out.1,u.out];exact a)
   rw[C]at D
   have o:P[k]'(by rw[u.out];exact a)=m k:=by rw[r,yD,yG (by rw[u.out];exact a)];rfl
   have v:=F _ (List.getElem_mem (by rw[u.out];exact a:k<P.length))
   rw[o]at D x v
   have d:=yH (aEs (some ⟨b,0,none⟩) (m k) _ c wr x rfl v)
   have H:=yH (aHV m k)
   clear C x o
   generalize m k=q at*
   go_wp2_with(first|(go_at_call 114;(with_reducible refine d.out.mono ?_);rintro e w2 ⟨rfl,rfl⟩)|fail)
   go_roundw
   case rel=>exact⟨k+1,by omega,by go_num,by rw[H.out],trivial⟩
   case measure=>simp[intOf];omega
  ·obtain rfl:k=n:=by omega
   go_wp2
   go_ret
   refine⟨?_,rfl⟩
   rw[z.out]
   rfl
end Nh
namespace Nk
open Bytes8 Blk8 Own8 OwnE Ga Ma Kf Mb Mc Md Mf Mg Fb Dc Na Nc Nd Nh
theorem aC2 (m m':Mk)(S:Sl)(j:Nat)(d:m.C=m'.C)(c:m.depth=m'.depth)(h:52≤j→j<142→m'.h.at_ 20 (j-52)=m.h.at_ 20 (j-52)):Mk.at_ m' S j=Mk.at_ m S j:=by
 unfold Mk.at_
 by_cases a:j<142
 ·rw[if_pos a,if_pos a]
  by_cases b:j<52
  ·rw[if_pos b,if_pos b,d]
  ·rw[if_neg b,if_neg b,h (by omega) a]
 ·rw[if_neg a,if_neg a,c]
theorem set_ta (m:Mk)(S:Sl)(v:Int):(Mk.cells m S).set 139 (.int .u32 v)=Mk.cells {m with h:={m.h with ta:=v}} S:=
 aBo _ _ _ _ _ rfl fun j hj=>aC2 _ _ _ _ rfl rfl fun h1 h2=>by
  unfold HD.at_
  repeat' split
  all_goals first|rfl|(exfalso;omega)
theorem set_ti (m:Mk)(S:Sl)(v:Int):(Mk.cells m S).set 140 (.int .u32 v)=Mk.cells {m with h:={m.h with ti:=v}} S:=
 aBo _ _ _ _ _ rfl fun j hj=>aC2 _ _ _ _ rfl rfl fun h1 h2=>by
  unfold HD.at_
  repeat' split
  all_goals first|rfl|(exfalso;omega)
theorem set_te (m:Mk)(S:Sl)(v:Int):(Mk.cells m S).set 141 (.int .u64 v)=Mk.cells {m with h:={m.h with te:=v}} S:=
 aBo _ _ _ _ _ rfl fun j hj=>aC2 _ _ _ _ rfl rfl fun h1 h2=>by
  unfold HD.at_
  repeat' split
  all_goals first|rfl|(exfalso;omega)
theorem get_ta (m:Mk)(S:Sl):(Mk.cells m S)[139]? =some (.int .u32 m.h.ta):=by rw[Mk.get m S _ (by decide)];rfl
theorem get_ti (m:Mk)(S:Sl):(Mk.cells m S)[140]? =some (.int .u32 m.h.ti):=by rw[Mk.get m S _ (by decide)];rfl
theorem get_te (m:Mk)(S:Sl):(Mk.cells m S)[141]? =some (.int .u64 m.h.te):=by rw[Mk.get m S _ (by decide)];rfl
variable {w w' : World} {B g : Nat} {p p' : Pl} {m m' : Mk}
theorem At.cta (h:At w B g p m):w.cell? ⟨g,139,none⟩=some (.int .u32 m.h.ta):=h.st.st.cell (get_ta _ _)
theorem At.cti (h:At w B g p m):w.cell? ⟨g,140,none⟩=some (.int .u32 m.h.ti):=h.st.st.cell (get_ti _ _)
theorem At.cte (h:At w B g p m):w.cell? ⟨g,141,none⟩=some (.int .u64 m.h.te):=h.st.st.cell (get_te _ _)
theorem At.head1 (h:At w B g p m)(i:Nat)(v:Value)(a:HD)(e: ∀S,(Mk.cells m S).set i v=Mk.cells {m with h:=a} S):At (w.setCell ⟨g,i,none⟩ v) B g p {m with h:=a}:=
 Nd.At.struct (S':=0) (v:= .bool true) h i v ⟨by have:=h.st.st.set_ i v;rw[e]at this;exact this,aBD h.st.own h.st.ne _ _,h.st.ne⟩ rfl rfl rfl
theorem At.setTa (h:At w B g p m)(v:Int):At (w.setCell ⟨g,139,none⟩ (.int .u32 v)) B g p {m with h:={m.h with ta:=v}}:=At.head1 h _ _ _ fun S=>set_ta m S v
theorem At.setTi (h:At w B g p m)(v:Int):At (w.setCell ⟨g,140,none⟩ (.int .u32 v)) B g p {m with h:={m.h with ti:=v}}:=At.head1 h _ _ _ fun S=>set_ti m S v
theorem At.setTe (h:At w B g p m)(v:Int):At (w.setCell ⟨g,141,none⟩ (.int .u64 v)) B g p {m with h:={m.h with te:=v}}:=At.head1 h _ _ _ fun S=>set_te m S v
theorem At.setM (h:At w B g p m)(v:Value)(l:List Nat)(b:Arr w (p.away B g) v l):At (w.setCell ⟨g,146,none⟩ v) B g {p with M:=v} {m with main:=l}∧Path g p w {p with M:=v} (w.setCell ⟨g,146,none⟩ v):=by
 have a:=(KeptF.refl (p.foot g) w).setCell (p:=⟨g,146,none⟩) (fun _=>Or.inl rfl) v
 refine⟨h.turn (p':={p with M:=v}) a (fun _ h=> .inl h) ?_ (Mf.OwnE.keptF h.dr (KeptF.set1 w g 146 v) fun j hj e=>(h.dg j hj).1 e) (Mf.OwnE.keptF h.fr (KeptF.set1 w g 146 v) fun j hj e=>(h.fg j hj).1 e) h.dm h.fm (fun q hq=> .inl hq) (.inr (b.kept a (fun _ _ h h2=>h (.inl h2)) fun _ _ h=>h)) h.dg h.fg h.df (fun q hq=> .inl hq),⟨fun _ h=> .inl h,a⟩⟩
 have:=h.st.st.set_ 146 v
 rw[Mk.set_m]at this
 exact MkB.same (m:=m) (m':={m with main:=l}) (S:={p.S with m:=v}) ⟨this,aBD h.st.own h.st.ne _ _,h.st.ne⟩ rfl rfl rfl rfl
end Nk
namespace Nl
open Bytes8 Ga Ma Mb Mc Mf Mg Na Nb Nc Nh
def Mk.bump (m:Mk):Mk:={m with h:=setN m.h 8 (m.h.N 8+1)}
theorem aM4 {m m':Mk}(h:Inv m)(d:m'.C=m.C)(a:m'.b=m.b)(f:m'.datas=m.datas)(g:m'.fields=m.fields)(j:m'.main=m.main)(e:m'.depth=m.depth)
 (c: ∀i,i=2∨i=4∨i=7∨i=8∨i=15∨i=16∨i=18∨i=19→m'.h.N i=m.h.N i):Inv m':=
 {F:=by rw[d];exact h.F
  ds:=by rw[d];exact h.ds
  fs:=by rw[d];exact h.fs
  n2:=by rw[c 2 (by simp)];exact h.n2
  n4:=by rw[c 4 (by simp),show Mk.tf m'=Mk.tf m by unfold Mk.tf;rw[d]];exact h.n4
  len:=by rw[d,a];exact h.len
  l8:=by rw[a];exact h.l8
  dat:=by rw[f,a];exact h.dat
  fld:=by rw[g,a];exact h.fld
  mn:=by rw[c 8 (by simp),j,a];exact h.mn
  n7:=by rw[c 7 (by simp),a];exact h.n7
  n15:=by rw[c 15 (by simp),a];exact h.n15
  n16:=by rw[c 16 (by simp),a];exact h.n16
  n18:=by rw[c 18 (by simp),a];exact h.n18
  n19:=by rw[c 19 (by simp),a];exact h.n19
  dep:=by rw[e,a];exact h.dep
  dn:=by rw[f,a];exact h.dn
  fn:=by rw[g,a];exact h.fn}
theorem aM5 {m m':Mk}(h:Inv m)(d:m'.C=m.C)(a:m'.b=m.b)(f:m'.datas=m.datas)(g:m'.fields=m.fields)(e:m'.depth=m.depth)
 (c: ∀i,i=2∨i=4∨i=7∨i=15∨i=16∨i=18∨i=19→m'.h.N i=m.h.N i)(j: ∃n:Nat,m'.h.N 8=(n:Int)∧Chain m.b.length m'.main n∧n≤m.b.length):Inv m':=
 {F:=by rw[d];exact h.F
  ds:=by rw[d];exact h.ds
  fs:=by rw[d];exact h.fs
  n2:=by rw[c 2 (by simp)];exact h.n2
  n4:=by rw[c 4 (by simp),show Mk.tf m'=Mk.tf m by unfold Mk.tf;rw[d]];exact h.n4
  len:=by rw[d,a];exact h.len
  l8:=by rw[a];exact h.l8
  dat:=by rw[f,a];exact h.dat
  fld:=by rw[g,a];exact h.fld
  mn:=by rw[a];exact j
  n7:=by rw[c 7 (by simp),a];exact h.n7
  n15:=by rw[c 15 (by simp),a];exact h.n15
  n16:=by rw[c 16 (by simp),a];exact h.n16
  n18:=by rw[c 18 (by simp),a];exact h.n18
  n19:=by rw[c 19 (by simp),a];exact h.n19
  dep:=by rw[e,a];exact h.dep
  dn:=by rw[f,a];exact h.dn
  fn:=by rw[g,a];exact h.fn}
theorem aEg (h:HD)(i j:Nat)(v u:Int)(e:i≠j):setN (setN h i v) j u=setN (setN h j u) i v:=by
 unfold setN
 congr 1
 funext k
 by_cases b:k=j
 ·by_cases a:k=i
  ·exact absurd (a.symm.trans b) e
  ·simp[b,a]
   intro c
   exact absurd c.symm e
 ·by_cases a:k=i
  ·simp[b,a]
   intro c
   exact absurd c e
  ·simp[b,a]
theorem aHs (m:Mk)(l:List Int):(Mk.bump m).object l=Mk.bump (m.object l):=by
 unfold Mk.bump Mk.object
 dsimp only
 rw[aEg _ 8 6 _ _ (by decide),aEg _ 8 7 _ _ (by decide)]
 rfl
theorem aKE (m:Mk)(arr:List Nat)(n fr item:Nat):Mk.link (Mk.bump m) arr n fr item=(Mk.bump (Mk.link m arr n fr item).1,(Mk.link m arr n fr item).2):=by
 unfold Mk.link
 by_cases e:n=rooms arr.length
 ·simp only[if_pos e]
  unfold Mk.linkNew
  rw[aHs]
  unfold Mk.bump
  dsimp only
  rw[aEg _ 8 18 _ _ (by decide)]
  rfl
 ·simp only[if_neg e]
  rfl
theorem aBx {m:Mk}(h:Inv m)(item n:Nat)(f:m.h.N 8=(n:Int))(q:Chain m.b.length m.main n)(r:n+1≤m.b.length)(c:184≤m.b.length):
 Inv (Mk.bump (Mk.linked m item n))∧m.b.length≤(Mk.linked m item n).b.length∧(Mk.linked m item n).b.length≤m.b.length+2100∧(Mk.linked m item n).datas=m.datas∧(Mk.linked m item n).C=m.C∧(Mk.linked m item n).h.N 9=m.h.N 9∧(Mk.linked m item n).h.N 8=m.h.N 8:=by
 obtain⟨d,k,l,p,o,s,t,e,u,a,g,j⟩:=aDD h (fr:=176) item q (by omega)
 refine⟨?_,l,p,o,e,?_,?_⟩
 ·refine aM5 d rfl rfl rfl rfl rfl ?_ ⟨n+1,?_,k,by omega⟩
  ·rintro i (rfl|rfl|rfl|rfl|rfl|rfl|rfl)<;>rfl
  ·show(Mk.link m m.main n 176 item).1.h.N 8+1=_
   rw[a 8 (by decide) (by decide) (by decide),f]
   rfl
 ·show(Mk.link m m.main n 176 item).1.h.N 9=_
  exact a 9 (by decide) (by decide) (by decide)
 ·show(Mk.link m m.main n 176 item).1.h.N 8=_
  exact a 8 (by decide) (by decide) (by decide)
structure InvM (L0 i:Nat)(m:Mk):Prop where
 inv:Inv (Mk.bump m)
 cnt: ∀k∈m.datas,k.count≤L0+i
 len:L0+64≤m.b.length
theorem aM6 {m m':Mk}(h:Inv m)(d:m'.C=m.C)(a:m'.b.length=m.b.length)(g:m'.fields=m.fields)(j:m'.main=m.main)(c:m'.h=m.h)(e:m'.depth=m.depth)(f:m'.datas.length=m.datas.length)
 (i: ∀k∈m'.datas,k.at_+64≤m.b.length∧AllB k.text∧k.text.length≤400∧Chain m.b.length k.arrays (k.count-1)∧k.count≤m.b.length):Inv m':=
 {F:=by rw[d];exact h.F
  ds:=by rw[d];exact h.ds
  fs:=by rw[d];exact h.fs
  n2:=by rw[c];exact h.n2
  n4:=by rw[c,show Mk.tf m'=Mk.tf m by unfold Mk.tf;rw[d]];exact h.n4
  len:=by rw[d,a];exact h.len
  l8:=by rw[a];exact h.l8
  dat:=by rw[a];exact i
  fld:=by rw[g,a];exact h.fld
  mn:=by rw[c,j,a];exact h.mn
  n7:=by rw[c,a];exact h.n7
  n15:=by rw[c,a];exact h.n15
  n16:=by rw[c,a];exact h.n16
  n18:=by rw[c,a];exact h.n18
  n19:=by rw[c,a];exact h.n19
  dep:=by rw[e,a];exact h.dep
  dn:=by rw[f,a];exact h.dn
  fn:=by rw[g,a];exact h.fn}
def Mk.hitched (e:Nat)(m:Mk)(j:Nat):Mk×List Nat:=
 if(Mk.kn m j).count=0 then({m with b:=put8 m.b ((Mk.kn m j).at_+40) e},(Mk.kn m j).arrays)
 else((Mk.link m (Mk.kn m j).arrays ((Mk.kn m j).count-1) ((Mk.kn m j).at_+48) e).1,(Mk.link m (Mk.kn m j).arrays ((Mk.kn m j).count-1) ((Mk.kn m j).at_+48) e).2.1)
theorem aC3 (e:Nat)(m:Mk)(j:Nat):Mk.mark e m j={(Mk.hitched e m j).1 with b:=put8 (Mk.hitched e m j).1.b ((Mk.kn m j).at_+56) (((Mk.kn m j).count+1:Nat):Int),datas:=(Mk.hitched e m j).1.datas.set j {Mk.kn m j with count:=(Mk.kn m j).count+1,arrays:=(Mk.hitched e m j).2}}:=rfl
theorem aGm {m:Mk}{j:Nat}(a:j<m.datas.length):Mk.kn m j∈m.datas:=by
 unfold Mk.kn
 rw[yD,yG a]
 exact List.getElem_mem a
theorem aCh {x i:Nat}{m:Mk}(h:InvM x i m)(e j:Nat)(y:j<m.datas.length):
 Inv (Mk.bump (Mk.hitched e m j).1)∧Chain (Mk.hitched e m j).1.b.length (Mk.hitched e m j).2 (Mk.kn m j).count∧m.b.length≤(Mk.hitched e m j).1.b.length∧(Mk.hitched e m j).1.b.length≤m.b.length+2100∧
 (Mk.hitched e m j).1.datas=m.datas∧(Mk.hitched e m j).1.C=m.C∧(Mk.hitched e m j).1.h.N 9=m.h.N 9∧(Mk.hitched e m j).1.h.N 8=m.h.N 8:=by
 obtain⟨v,z,A,f,B⟩:=h.inv.dat _ (show Mk.kn m j∈(Mk.bump m).datas from aGm y)
 have v:(Mk.kn m j).at_+64≤m.b.length:=v
 have f:Chain m.b.length (Mk.kn m j).arrays ((Mk.kn m j).count-1):=f
 unfold Mk.hitched
 by_cases g:(Mk.kn m j).count=0
 ·rw[if_pos g]
  have r:(put8 m.b ((Mk.kn m j).at_+40) (e:Int)).length=m.b.length:=aAp _ _ _ (by omega)
  refine⟨aD0 h.inv r,?_,by show _≤(put8 _ _ _).length;omega,by show(put8 _ _ _).length≤_;omega,rfl,rfl,rfl,rfl⟩
  show Chain (put8 _ _ _).length _ _
  rw[r,g]
  rw[g]at f
  exact f
 ·rw[if_neg g]
  obtain⟨k,n,o,q,p,s,t,l,u,a,c,d⟩:=aDD h.inv (fr:=(Mk.kn m j).at_+48) e (show Chain (Mk.bump m).b.length _ _ from f) (show _≤m.b.length by omega)
  rw[aKE]at k n o q p s t l u a c d
  dsimp only at k n o q p s t l u a c d
  refine⟨k,?_,o,q,p,l,?_,?_⟩
  ·rw[show(Mk.kn m j).count=(Mk.kn m j).count-1+1 by omega]
   exact n
  ·exact a 9 (by decide) (by decide) (by decide)
  ·have w:=a 8 (by decide) (by decide) (by decide)
   have D:(Mk.link m (Mk.kn m j).arrays ((Mk.kn m j).count-1) ((Mk.kn m j).at_+48) e).1.h.N 8+1=m.h.N 8+1:=w
   show(Mk.link m (Mk.kn m j).arrays ((Mk.kn m j).count-1) ((Mk.kn m j).at_+48) e).1.h.N 8=m.h.N 8
   omega
theorem aFy {l i:Nat}{m:Mk}(h:InvM l i m)(e j:Nat)(d:j<m.datas.length)(x:i<16):
 InvM l (i+1) (Mk.mark e m j)∧m.b.length≤(Mk.mark e m j).b.length∧(Mk.mark e m j).b.length≤m.b.length+2100∧(Mk.mark e m j).datas.length=m.datas.length∧(Mk.mark e m j).C=m.C∧(Mk.mark e m j).h.N 9=m.h.N 9∧(Mk.mark e m j).h.N 8=m.h.N 8:=by
 obtain⟨g,v,z,A,f,s,u,t⟩:=aCh h e j d
 obtain⟨n,p,q,y,w⟩:=h.inv.dat _ (show Mk.kn m j∈(Mk.bump m).datas from aGm d)
 have n:(Mk.kn m j).at_+64≤m.b.length:=n
 have B:=h.cnt _ (aGm d)
 have o:=h.len
 rw[aC3]
 have r:(put8 (Mk.hitched e m j).1.b ((Mk.kn m j).at_+56) (((Mk.kn m j).count+1:Nat):Int)).length=(Mk.hitched e m j).1.b.length:=aAp _ _ _ (by omega)
 have c:((Mk.hitched e m j).1.datas.set j {Mk.kn m j with count:=(Mk.kn m j).count+1,arrays:=(Mk.hitched e m j).2}).length=m.datas.length:=by rw[List.length_set,f]
 refine⟨⟨?_,?_,?_⟩,?_,?_,c,s,u,t⟩
 ·refine aM6 g rfl r rfl rfl rfl rfl (c.trans (congrArg List.length f).symm) ?_
  intro k a
  rcases List.mem_or_eq_of_mem_set (show k∈(Mk.hitched e m j).1.datas.set j _ from a)with a|a
  ·exact g.dat k a
  ·rw[a]
   exact⟨show(Mk.kn m j).at_+64≤(Mk.hitched e m j).1.b.length by omega,p,q,v,show(Mk.kn m j).count+1≤(Mk.hitched e m j).1.b.length by omega⟩
 ·intro k a
  rcases List.mem_or_eq_of_mem_set (show k∈(Mk.hitched e m j).1.datas.set j _ from a)with a|a
  ·rw[f]at a
   have:=h.cnt k a
   omega
  ·rw[a]
   show(Mk.kn m j).count+1≤_
   omega
 ·show _≤(put8 _ _ _).length
  omega
 ·show _≤(put8 _ _ _).length
  omega
 ·show(put8 _ _ _).length≤_
  omega
theorem aAL {d:Nat}{m:Mk}(h:InvM d 0 m)(e:Nat)(who:List Nat)(c: ∀x∈who,x<m.datas.length)(a:who.length≤16): ∀i,i≤who.length→
 InvM d i (Mk.markAll e m (who.take i))∧m.b.length≤(Mk.markAll e m (who.take i)).b.length∧(Mk.markAll e m (who.take i)).b.length≤m.b.length+2100*i∧(Mk.markAll e m (who.take i)).datas.length=m.datas.length∧(Mk.markAll e m (who.take i)).C=m.C∧(Mk.markAll e m (who.take i)).h.N 9=m.h.N 9∧(Mk.markAll e m (who.take i)).h.N 8=m.h.N 8
 |0,_=>by
  rw[show Mk.markAll e m (who.take 0)=m by rw[List.take_zero];rfl]
  refine⟨h,yR _,?_,rfl,rfl,rfl,rfl⟩
  exact Nat.le_add_right _ _
 |i+1,hi=>by
  obtain⟨h1,h2,h3,h4,h5,h6,h7⟩:=aAL h e who c a i (by omega)
  rw[aBk e m who i (by omega)]
  obtain⟨f,g,o,l,k,j,n⟩:=aFy h1 e who[i] (by rw[h4];exact c _ (List.getElem_mem _)) (by omega)
  exact⟨f,Nat.le_trans h2 g,by omega,l.trans h4,k.trans h5,j.trans h6,n.trans h7⟩
theorem aM7 {m:Mk}(h:Inv (Mk.bump m))(n:Nat)(b real mono:Int)(a:Nat→Int)(te:Nat):Inv (Mk.told m n b real mono a te):=by
 refine aM4 h rfl rfl rfl rfl rfl rfl ?_
 unfold Mk.told Mk.bump
 dsimp only
 by_cases c:n=0
 ·rw[if_pos c]
  rintro i (rfl|rfl|rfl|rfl|rfl|rfl|rfl|rfl)<;>rfl
 ·rw[if_neg c]
  rintro i (rfl|rfl|rfl|rfl|rfl|rfl|rfl|rfl)<;>rfl
end Nl
namespace Nm
open Bytes8 Blk8 Own8 OwnA OwnE Od Ga Ma Kf Mb Mc Md Mf Mg Fa Fb Dc Na Nc Nd Nh Nk
theorem aCJ {w:World}{F:Nat→Prop}{v:Value}{l:List Nat}(h:Arr w F v l){K:Nat}{s:ByteArray}{r:List Value}{m:TypeId}(p:Blk w K (.string s::r) m):Arr w (fun b=>F b∨b=K) v l:=by
 obtain⟨A,n,c,e,g,h⟩:=h
 refine⟨A,n,c,e,g,fun i hi=>?_⟩
 obtain⟨b,d,j,k,o⟩:=h i hi
 refine⟨b,d,j,fun h5=>h5.elim k fun h6=>?_,o⟩
 subst h6
 obtain⟨b2,a,_,_,f⟩:=h 0 (by omega)
 rw[d]at a
 injection a with a
 injection a with a
 subst a
 rw[p.cell (i:=0) rfl]at f
 cases f
theorem aOb: ∀(l:List (Kn×Value)) (x:Nat),x<l.length→ ∀(k:Kn) (v:Value),kf (l.set x (k,v))=(((((kf l).set (x*5) (.string (T k.text))).set (x*5+1) (.int .u64 (k.at_:Int))).set (x*5+2) (.int .i64 (k.slot:Int))).set (x*5+3) (.int .i64 (k.count:Int))).set (x*5+4) v
 | [],x,h,_,_=>absurd h (Nat.not_lt_zero _)
 |p::l,0,_,k,v=>by
  have e: ∀(q:Kn×Value) (r:List (Kn×Value)),kf (q::r)=knC q.1 q.2++kf r:=fun q r=>by simp[kf]
  rw[List.set_cons_zero,e,e]
  rfl
 |p::l,x+1,h,k,v=>by
  have e: ∀(q:Kn×Value) (r:List (Kn×Value)),kf (q::r)=knC q.1 q.2++kf r:=fun q r=>by simp[kf]
  rw[List.set_cons_succ,e,e,aOb l x (by simpa using h) k v]
  have a:(x+1)*5=x*5+5:=by omega
  rw[a,show x*5+5+1=x*5+1+5 by omega,show x*5+5+2=x*5+2+5 by omega,show x*5+5+3=x*5+3+5 by omega,show x*5+5+4=x*5+4+5 by omega]
  rfl
theorem aCK {E:TypeId}{size:Nat}{w:World}{base n c g:Nat}{xs:List Value}(h:OwnE E size w base (some ⟨g,0,none⟩) n c xs)(j:Nat)(u:Value):OwnE E size (w.setCell ⟨g,j,none⟩ u) base (some ⟨g,0,none⟩) n c (xs.set j u):=
 ⟨by simpa using h.1,(h.2.stored j u).1⟩
variable {w w' : World} {B g : Nat} {p p' : Pl} {m m' : Mk}
theorem At.setK (h:At w B g p m){K:Nat}{s:ByteArray}{r:List Value}{f:TypeId}(c:Blk w K (.string s::r) f)(d: ¬p.foot g K)(i:Nat)(v:Value):At (w.setCell ⟨K,i,none⟩ v) B g p m:=by
 have hk:=KeptF.set1 w K i v
 have a: ∀k,p.foot g k→ ¬One K k:=fun k h1 h2=>d ((show k=K from h2)▸h1)
 exact
  {st:=⟨Kf.Blk.keptF h.st.st hk (a _ (.inl rfl)),Kf.Own.keptF h.st.own hk (fun k hk'=>a k (.inr (.inl (by injection hk' with e;exact e.symm)))),h.st.ne⟩
   dr:=Mf.OwnE.keptF h.dr hk (fun k e=>a k (.inr (.inr (.inl e))))
   fr:=Mf.OwnE.keptF h.fr hk (fun k e=>a k (.inr (.inr (.inr e))))
   dm:=h.dm,fm:=h.fm
   da:=fun q hq=>(aCJ (h.da q hq) c).kept hk (fun b _ h1 h2=>h1 (.inr h2)) (fun b _ h1 h2=>h1 (.inl h2))
   ma:=(aCJ h.ma c).kept hk (fun b _ h1 h2=>h1 (.inr h2)) (fun b _ h1 h2=>h1 (.inl h2))
   dg:=h.dg,fg:=h.fg,df:=h.df,gB:=h.gB,fo:=h.fo}
theorem At.setD (h:At w B g p m)(x:Nat)(t:x<p.dl.length)(a:Nat)(r:p.D=some ⟨a,0,none⟩)(b:Kn)(c:Value)(s:Arr w (p.away B g) c b.arrays):
 At (w.setCells a (x*5) (knC b c)) B g {p with dl:=p.dl.set x (b,c)} {m with datas:=m.datas.set x b}∧Path g p w {p with dl:=p.dl.set x (b,c)} (w.setCells a (x*5) (knC b c)):=by
 have f:ownB p.D=some a:=by rw[r];rfl
 have e:w.setCells a (x*5) (knC b c)=((((w.setCell ⟨a,x*5,none⟩ (.string (T b.text))).setCell ⟨a,x*5+1,none⟩ (.int .u64 (b.at_:Int))).setCell ⟨a,x*5+2,none⟩ (.int .i64 (b.slot:Int))).setCell ⟨a,x*5+3,none⟩ (.int .i64 (b.count:Int))).setCell ⟨a,x*5+4,none⟩ c:=rfl
 have k:KeptF (One a) w (w.setCells a (x*5) (knC b c)):=by
  rw[e]
  exact((((KeptF.set1 w a _ _).setCell (p:=⟨a,x*5+1,none⟩) (fun _=>rfl) _).setCell (p:=⟨a,x*5+2,none⟩) (fun _=>rfl) _).setCell (p:=⟨a,x*5+3,none⟩) (fun _=>rfl) _).setCell (p:=⟨a,x*5+4,none⟩) (fun _=>rfl) _
 have n:KeptF (p.foot g) w (w.setCells a (x*5) (knC b c)):=k.mono fun i hi=> .inr (.inr (.inl (by rw[show i=a from hi];exact f)))
 refine⟨h.turn (p':={p with dl:=p.dl.set x (b,c)}) n (fun _ h=> .inl h) ?_ ?_ ?_ ?_ h.fm ?_ (.inl ⟨rfl,rfl⟩) h.dg h.fg h.df (fun q o=> .inl o),⟨fun _ h=> .inl h,n⟩⟩
 ·have l:MkB (w.setCells a (x*5) (knC b c)) B g p.bb p.cb p.S m:=
   ⟨Kf.Blk.keptF h.st.st k (fun d=>(h.dg a f).1 (show g=a from d).symm),Kf.Own.keptF h.st.own k (fun j hj d=>(h.dg a f).2 (by injection hj with hj;exact((show j=a from d).symm.trans hj.symm))),h.st.ne⟩
  exact MkB.same l rfl rfl rfl rfl
 ·have l:=h.dr
  rw[r]at l
  have d:=aCK (aCK (aCK (aCK (aCK l (x*5) (.string (T b.text))) (x*5+1) (.int .u64 (b.at_:Int))) (x*5+2) (.int .i64 (b.slot:Int))) (x*5+3) (.int .i64 (b.count:Int))) (x*5+4) c
  rw[←aOb p.dl x t b c,←e,←r]at d
  exact d
 ·exact Mf.OwnE.keptF h.fr k (fun j hj d=>h.df a f ((show j=a from d)▸hj))
 ·show(p.dl.set x (b,c)).map Prod.fst=m.datas.set x b
  rw[List.map_set,h.dm]
 ·intro q o
  rcases List.mem_or_eq_of_mem_set (show q∈p.dl.set x (b,c)from o)with l|l
  ·exact .inl l
  ·right
   rw[l]
   exact s.kept n (fun _ _ h d=>h (.inl d)) fun _ _ h=>h
end Nm
namespace No
open Bytes8 Blk8 Own8 OwnE Ob Od Ga Ma Kf Mb Mc Md Mf Mg Fb Dc Na Nc Nd Nh Nk Nm
theorem At.offB {w w':World}{B g:Nat}{p:Pl}{m:Mk}{G:Nat→Prop}(h:At w B g p m)(hk:KeptF G w w')(f: ∀k,G k→k<B):At w' B g p m:=by
 have a: ∀k,p.foot g k→ ¬G k:=fun k hf hg=>by have d:=(At.lt h k hf).1;have c:=f k hg;omega
 exact
  {st:=⟨Kf.Blk.keptF h.st.st hk (a _ (.inl rfl)),Kf.Own.keptF h.st.own hk (fun k hk'=>a k (.inr (.inl (by injection hk' with e;exact e.symm)))),h.st.ne⟩
   dr:=Mf.OwnE.keptF h.dr hk (fun k e=>a k (.inr (.inr (.inl e))))
   fr:=Mf.OwnE.keptF h.fr hk (fun k e=>a k (.inr (.inr (.inr e))))
   dm:=h.dm,fm:=h.fm
   da:=fun q hq=>(h.da q hq).kept hk (fun b _ d c=>d (.inr (f b c))) (fun _ _ h=>h)
   ma:=h.ma.kept hk (fun b _ d c=>d (.inr (f b c))) (fun _ _ h=>h)
   dg:=h.dg,fg:=h.fg,df:=h.df,gB:=h.gB,fo:=h.fo}
theorem aDq (w:World)(g:Nat)(a:Array Value):KeptF (One g) w (w.setRow g a):=by
 have b:Below 0 w w:=yB _ _
 refine⟨?_,?_,?_,?_,fun k hk hne=>?_⟩
 ·rfl
 ·rfl
 ·rfl
 ·simp
 ·exact setRow_other w g k a hne
theorem At.restore {w:World}{B l g j:Nat}{c:Pl}{m:Mk}(h:At w l j c m)(old:Array Value)(n:w.heap[g]? =some (.cells old 126 (0,0)))(i:B≤g)(d:g<l):
 At (w.setRow g (Mk.cells m {c.S with b:= .slice (some ⟨c.bb,0,none⟩) m.b.length c.cb}).toArray) B g c m:=by
 have hk:=aDq w g (Mk.cells m {c.S with b:= .slice (some ⟨c.bb,0,none⟩) m.b.length c.cb}).toArray
 have f:=At.lt h
 have a: ∀k,c.foot j k→k≠g:=fun k hf e=>by have:=(f k hf).1;omega
 exact
  {st:=⟨setRow_heap _ g _ _ 126 (0,0) n,Own.base (Kf.Own.keptF h.st.own hk (fun k hk' e=>a k (.inr (.inl (by injection hk' with e;exact e.symm))) e)) (by omega),fun e=>a c.bb (.inr (.inl rfl)) e.symm⟩
   dr:=aEe (Mf.OwnE.keptF h.dr hk (fun k e e2=>a k (.inr (.inr (.inl e))) e2)) (by omega)
   fr:=aEe (Mf.OwnE.keptF h.fr hk (fun k e e2=>a k (.inr (.inr (.inr e))) e2)) (by omega)
   dm:=h.dm,fm:=h.fm
   da:=fun q hq=>(h.da q hq).kept hk (fun b _ h1 h2=>h1 (.inr (by rw[show b=g from h2];exact d))) (fun b _ h1 h2=>h1 (h2.elim (fun h3=>h3.elim (fun h4=> .inr (by rw[h4];exact d)) (fun h4=> .inl (.inr h4))) (fun h3=> .inr (by omega))))
   ma:=h.ma.kept hk (fun b _ h1 h2=>h1 (.inr (by rw[show b=g from h2];exact d))) (fun b _ h1 h2=>h1 (h2.elim (fun h3=>h3.elim (fun h4=> .inr (by rw[h4];exact d)) (fun h4=> .inl (.inr h4))) (fun h3=> .inr (by omega))))
   dg:=fun k hk'=>⟨a k (.inr (.inr (.inl hk'))),(h.dg k hk').2⟩
   fg:=fun k hk'=>⟨a k (.inr (.inr (.inr hk'))),(h.fg k hk').2⟩
   df:=h.df,gB:=i,fo:=h.fo}
theorem aQs (m:Mk)(S:Sl)(k:Nat)(a:k<64)(v:Int):(Mk.cells m S).set (55+k) (.int .u8 v)=Mk.cells {m with h:={m.h with I:=fun j=>if j=k then v else m.h.I j}} S:=by
 refine aBo _ _ _ _ _ ?_ fun j hj=>aC2 _ _ _ _ rfl rfl fun h1 h2=>?_
 ·unfold Mk.at_
  rw[if_pos (by omega),if_neg (by omega)]
  unfold HD.at_
  rw[if_neg (by omega),if_pos (by omega)]
  dsimp only
  rw[if_pos (by omega)]
 ·unfold HD.at_
  dsimp only
  repeat' split
  all_goals first|rfl|(exfalso;omega)
variable {w : World} {B g : Nat} {p : Pl} {m : Mk}
theorem At.setI (h:At w B g p m)(k n:Nat)(b:k<64)(a:n=55+k)(v:Int):At (w.setCell ⟨g,n,none⟩ (.int .u8 v)) B g p {m with h:={m.h with I:=fun j=>if j=k then v else m.h.I j}}:=by
 subst a
 exact Nk.At.head1 h _ _ _ fun S=>aQs m S k b v
def upI (f:Nat→Int)(k:Nat)(v:Int):Nat→Int:=fun j=>if j=k then v else f j
theorem At.setI2 (a:Nat→Int)(h:At w B g p {m with h:={m.h with I:=a}})(k n:Nat)(c:k<64)(b:n=55+k)(v:Int):At (w.setCell ⟨g,n,none⟩ (.int .u8 v)) B g p {m with h:={m.h with I:=upI a k v}}:=At.setI h k n c b v
def upBoot (f K:Nat→Int):Nat→Int:=(upI (upI (upI (upI (upI (upI (upI (upI (upI (upI (upI (upI (upI (upI (upI (upI f 32 (K 0)) 33 (K 1)) 34 (K 2)) 35 (K 3)) 36 (K 4)) 37 (K 5)) 38 (K 6)) 39 (K 7)) 40 (K 8)) 41 (K 9)) 42 (K 10)) 43 (K 11)) 44 (K 12)) 45 (K 13)) 46 (K 14)) 47 (K 15))
theorem aKF (f K:Nat→Int):upBoot f K=fun i=>if 32≤i∧i<48 then K (i-32)else f i:=by
 funext i
 unfold upBoot
 by_cases a:32≤i∧i<48
 ·rw[if_pos a]
  obtain⟨j,rfl⟩: ∃j,i=32+j:=⟨i-32,by omega⟩
  have b:j<16:=by omega
  rcases j with _|_|_|_|_|_|_|_|_|_|_|_|_|_|_|_|j
  all_goals first|rfl|(exfalso;omega)
 ·rw[if_neg a]
  unfold upI
  repeat rw[if_neg (by omega)]
theorem At.setBoot (h:At w B g p m)(K:Nat→Int):At (w.setCells g 87 [.int .u8 (K 0),.int .u8 (K 1),.int .u8 (K 2),.int .u8 (K 3),.int .u8 (K 4),.int .u8 (K 5),.int .u8 (K 6),.int .u8 (K 7),.int .u8 (K 8),.int .u8 (K 9),.int .u8 (K 10),.int .u8 (K 11),.int .u8 (K 12),.int .u8 (K 13),.int .u8 (K 14),.int .u8 (K 15)]) B g p {m with h:={m.h with I:=fun i=>if 32≤i∧i<48 then K (i-32)else m.h.I i}}:=by
 have n:=At.setI2 m.h.I h 32 87 (by decide) rfl (K 0)
 have t:=At.setI2 _ n 33 88 (by decide) rfl (K 1)
 have l:=At.setI2 _ t 34 89 (by decide) rfl (K 2)
 have o:=At.setI2 _ l 35 90 (by decide) rfl (K 3)
 have s:=At.setI2 _ o 36 91 (by decide) rfl (K 4)
 have v:=At.setI2 _ s 37 92 (by decide) rfl (K 5)
 have q:=At.setI2 _ v 38 93 (by decide) rfl (K 6)
 have u:=At.setI2 _ q 39 94 (by decide) rfl (K 7)
 have k:=At.setI2 _ u 40 95 (by decide) rfl (K 8)
 have r:=At.setI2 _ k 41 96 (by decide) rfl (K 9)
 have c:=At.setI2 _ r 42 97 (by decide) rfl (K 10)
 have j:=At.setI2 _ c 43 98 (by decide) rfl (K 11)
 have d:=At.setI2 _ j 44 99 (by decide) rfl (K 12)
 have a:=At.setI2 _ d 45 100 (by decide) rfl (K 13)
 have b:=At.setI2 _ a 46 101 (by decide) rfl (K 14)
 have f:=At.setI2 _ b 47 102 (by decide) rfl (K 15)
 have e:=aKF m.h.I K
 rw[←e]
 exact f
theorem Path.setCells {g:Nat}{p a:Pl}{w w1:World}(b:List Value): ∀(o:Nat) (w1:World),Path g p w a w1→Path g p w a (w1.setCells g o b):=by
 induction b with
 |nil=>exact fun o w1 h=>h
 |cons v r ih=>exact fun o w1 h=>ih (o+1) _ (h.set o v)
theorem At.setNh (a:HD)(h:At w B g p {m with h:=a})(i k:Nat)(c:i<20)(b:k=119+i)(v:Int):At (w.setCell ⟨g,k,none⟩ (.int .u64 v)) B g p {m with h:=setN a i v}:=Nd.At.setN h i k c b v
theorem At.setBooth (a:HD)(h:At w B g p {m with h:=a})(K:Nat→Int):At (w.setCells g 87 [.int .u8 (K 0),.int .u8 (K 1),.int .u8 (K 2),.int .u8 (K 3),.int .u8 (K 4),.int .u8 (K 5),.int .u8 (K 6),.int .u8 (K 7),.int .u8 (K 8),.int .u8 (K 9),.int .u8 (K 10),.int .u8 (K 11),.int .u8 (K 12),.int .u8 (K 13),.int .u8 (K 14),.int .u8 (K 15)]) B g p {m with h:={a with I:=fun i=>if 32≤i∧i<48 then K (i-32)else a.I i}}:=At.setBoot h K
theorem At.setTeh (a:HD)(h:At w B g p {m with h:=a})(v:Int):At (w.setCell ⟨g,141,none⟩ (.int .u64 v)) B g p {m with h:={a with te:=v}}:=Nk.At.setTe h v
theorem At.flat (h:At w B g p m):At w B g p {m with h:=m.h}:=h
end No
end Go.Proofs.YteaikbodkgjkdaaGreat
