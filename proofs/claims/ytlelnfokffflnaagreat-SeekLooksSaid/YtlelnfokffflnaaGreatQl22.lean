/-
  Texts beneath the proof.
-/
import Derived.Test.YtlelnfokffflnaaGreatQl21
set_option linter.unusedVariables false
set_option linter.unusedSimpArgs false
set_option maxRecDepth 100000
set_option maxHeartbeats 1000000
open Go.ChangeShapes Go.WideShapes Go.ChangeAt Go.RowKit
namespace Go.Proofs.YtlelnfokffflnaaGreat
namespace Nh
open Bytes8 Blk8 Own8 OwnA OwnE Rows2 Ob Od Ga Ma Kf Mb Mc Md Mf Mg Fa Fb Dc Yc Yd Na Nb Nc Nd Nf Hm Se Ya Pr8 Pl8
def Mk.kn (m:Mk)(i:Nat):Kn:=m.datas.getD i ⟨[],0,0,0,[]⟩
def posW (f:Nat→Nat)(x:Nat)(who:List Nat):Nat→Nat
 |0=>0
 |j+1=>if x<f (who.getD j 0)then posW f x who j else j+1
theorem aHu (f:Nat→Nat)(x:Nat)(who:List Nat): ∀j,posW f x who j≤j
 |0=>yR _
 |j+1=>by
  unfold posW
  split
  ·exact Nat.le_trans (aHu f x who j) (Nat.le_succ _)
  ·exact yR _
def insW (f:Nat→Nat)(who:List Nat)(k:Nat):List Nat:=who.take (posW f (f k) who who.length)++k::who.drop (posW f (f k) who who.length)
theorem aM0 (f:Nat→Nat)(who:List Nat)(k:Nat):(insW f who k).length=who.length+1:=by
 have:=aHu f (f k) who who.length
 unfold insW
 rw[List.length_append,List.length_cons,List.length_take,List.length_drop]
 omega
theorem aM1 {f:Nat→Nat}{who:List Nat}{k x:Nat}(h:x∈insW f who k):x=k∨x∈who:=by
 unfold insW at h
 rcases List.mem_append.1 h with h|h
 ·exact .inr (List.mem_of_mem_take h)
 ·rcases List.mem_cons.1 h with h|h
  ·exact .inl h
  ·exact .inr (List.mem_of_mem_drop h)
def dataStep (s:Mk×List Nat)(q:PR):Mk×List Nat:=
 let r:=Mk.dataOf s.1 q.1 (pay q.1 q.2)
 (r.2,insW (fun i=>(Mk.kn r.2 i).at_) s.2 r.1)
def Mk.dataAll (m:Mk)(l:List PR):Mk×List Nat:=l.foldl dataStep (m,[])
theorem aA0 (m:Mk)(l:List PR)(k:Nat)(h:k<l.length):Mk.dataAll m (l.take (k+1))=dataStep (Mk.dataAll m (l.take k)) l[k]:=by
 unfold Mk.dataAll
 rw[List.take_succ_eq_append_getElem h,List.foldl_append]
 rfl
theorem aGl {l:List Kn}{s:List Int}{i:Nat}(h:idxK l s=some i):i<l.length:=by
 unfold idxK at h
 exact(List.findIdx?_eq_some_iff_getElem.1 h).1
structure DKeeps (m m':Mk):Prop where
 C:m'.C=m.C
 main:m'.main=m.main
 n8:m'.h.N 8=m.h.N 8
 n9:m'.h.N 9=m.h.N 9
 len:m.b.length≤m'.b.length
 datas:m.datas.length≤m'.datas.length
theorem DKeeps.refl (m:Mk):DKeeps m m:=⟨rfl,rfl,rfl,rfl,yR _,yR _⟩
theorem DKeeps.trans {a b c:Mk}(h:DKeeps a b)(k:DKeeps b c):DKeeps a c:=⟨k.C.trans h.C,k.main.trans h.main,k.n8.trans h.n8,k.n9.trans h.n9,Nat.le_trans h.len k.len,Nat.le_trans h.datas k.datas⟩
theorem aC1 {m:Mk}(h:Inv m)(c s:List Int)(l:AllB c)(f:c.length≤64)(hs:AllB s)(d:s.length≤400):
 Inv (Mk.dataOf m c s).2∧(Mk.dataOf m c s).1<(Mk.dataOf m c s).2.datas.length∧(Mk.dataOf m c s).2.b.length≤m.b.length+600∧DKeeps m (Mk.dataOf m c s).2:=by
 unfold Mk.dataOf
 cases e:idxK m.datas s with
 |some i=>exact⟨h,aGl e,Nat.le_add_right _ _,DKeeps.refl _⟩
 |none=>
  obtain⟨p,o,r,g,q,k,n,j⟩:=aCb h c s l f hs d
  refine⟨p,?_,r,q,k,n,j,o,?_⟩
  ·show m.datas.length<(Mk.dataNew m c s).datas.length
   rw[g,List.length_append,List.length_singleton]
   exact Nat.lt_succ_self _
  ·show m.datas.length≤(Mk.dataNew m c s).datas.length
   rw[g,List.length_append]
   exact Nat.le_add_right _ _
theorem aAs {m:Mk}(h:Inv m)(l:List PR)(d: ∀q∈l,AllB q.1∧AllB q.2∧q.1.length≤64∧q.2.length≤256): ∀k,k≤l.length→
 Inv (Mk.dataAll m (l.take k)).1∧(Mk.dataAll m (l.take k)).2.length=k∧(∀x∈(Mk.dataAll m (l.take k)).2,x<(Mk.dataAll m (l.take k)).1.datas.length)∧(Mk.dataAll m (l.take k)).1.b.length≤m.b.length+600*k∧DKeeps m (Mk.dataAll m (l.take k)).1
 |0,_=>by
  refine⟨h,rfl,?_,yR _,DKeeps.refl _⟩
  intro x c
  exact absurd c (List.not_mem_nil)
 |k+1,hk=>by
  obtain⟨h1,h2,h3,h4,h5⟩:=aAs h l d k (by omega)
  obtain⟨f,p,n,r⟩:=d l[k] (List.getElem_mem _)
  have i:(pay l[k].1 l[k].2).length≤400:=by rw[Nee.pay_len];omega
  obtain⟨o,j,s,g⟩:=aC1 h1 l[k].1 (pay l[k].1 l[k].2) f n (aBr f p) i
  rw[aA0 m l k (by omega)]
  refine⟨o,?_,?_,?_,h5.trans g⟩
  ·show(insW _ _ _).length=_
   rw[aM0,h2]
  ·intro x c
   rcases aM1 c with rfl|c
   ·exact j
   ·exact yL (h3 x c) g.datas
  ·show(Mk.dataOf _ _ _).2.b.length≤_
   omega
def Mk.eobj (m:Mk)(who:List Nat)(ps:List (List Int))(seq real mono:Int)(boot:Nat→Int):List Int:=
 objB 3 (entB seq real mono boot ((xr ps:Nat):Int) (prs (fun i=>((Mk.kn m (who.getD i 0)).at_:Int)) (fun i=>Mk.sum m (Mk.kn m (who.getD i 0)).text) who.length))
def Mk.linked (m:Mk)(at_:Nat)(n:Nat):Mk:=
 let r:=Mk.link m m.main n 176 at_
 {r.1 with main:=r.2.1,h:={setN r.1.h 11 ((r.2.1.getD 0 0:Nat):Int)with ta:=((r.2.1.getLastD 0:Nat):Int),ti:=((r.2.2:Nat):Int)}}
def Mk.mark (e:Nat)(m:Mk)(j:Nat):Mk:=
 let d:=Mk.kn m j
 let r:Mk×List Nat:=if d.count=0 then({m with b:=put8 m.b (d.at_+40) e},d.arrays)else((Mk.link m d.arrays (d.count-1) (d.at_+48) e).1,(Mk.link m d.arrays (d.count-1) (d.at_+48) e).2.1)
 {r.1 with b:=put8 r.1.b (d.at_+56) ((d.count+1:Nat):Int),datas:=r.1.datas.set j {d with count:=d.count+1,arrays:=r.2}}
def Mk.markAll (e:Nat)(m:Mk)(who:List Nat):Mk:=who.foldl (Mk.mark e) m
theorem aBk (e:Nat)(m:Mk)(who:List Nat)(k:Nat)(h:k<who.length):Mk.markAll e m (who.take (k+1))=Mk.mark e (Mk.markAll e m (who.take k)) who[k]:=by
 unfold Mk.markAll
 rw[List.take_succ_eq_append_getElem h,List.foldl_append]
 rfl
def Mk.grown (m:Mk)(l:List PR)(real mono:Int)(boot:Nat→Int):Mk:=
 let s:=Mk.dataAll m l
 let m2:=s.1.object (Mk.eobj s.1 s.2 (l.map fun q=>pay q.1 q.2) (m.h.N 9+1) real mono boot)
 Mk.markAll s.1.b.length (Mk.linked m2 s.1.b.length (m.h.N 8).toNat) s.2
def Mk.told (m:Mk)(n:Nat)(seq real mono:Int)(boot:Nat→Int)(te:Nat):Mk:=
 let h1:=if n=0 then setN (setN m.h 10 seq) 12 real else m.h
 let h2:=setN h1 8 (h1.N 8+1)
 let h3:=setN (setN (setN h2 9 seq) 13 real) 14 mono
 {m with h:={h3 with I:=fun i=>if 32≤i∧i<48 then boot (i-32)else h3.I i,te:=(te:Int)}}
def Mk.entered (m:Mk)(l:List PR)(real mono:Int)(boot:Nat→Int):Mk:=
 Mk.told (Mk.grown m l real mono boot) (m.h.N 8).toNat (m.h.N 9+1) real mono boot (Mk.dataAll m l).1.b.length
def Mk.acode (m:Mk)(raw:List PR)(real mono:Int)(boot:Nat→Int):Int:=
 if listE raw≠0 then listE raw else if m.h.N 9=18446744073709551615 then 1 else if m.C.most<(Mk.grown m (listL raw) real mono boot).b.length then 15 else 0
def Mk.after (m:Mk)(raw:List PR)(real mono:Int)(boot:Nat→Int):Mk:=if Mk.acode m raw real mono boot=0 then Mk.entered m (listL raw) real mono boot else m
structure Side (E:TypeId)(size:Nat)(w:World)(g:Nat)(p:Pl)(b0:Nat)(A:Option Addr)(n c:Nat)(xs:List Value):Prop where
 own:OwnE E size w b0 A n c xs
 off: ∀k,ownB A=some k→ ¬p.foot g k
theorem Side.path {E:TypeId}{size:Nat}{w w':World}{g:Nat}{p p':Pl}{b0:Nat}{A:Option Addr}{n c:Nat}{xs:List Value}(h:Side E size w g p b0 A n c xs)(k:Path g p w p' w'):Side E size w' g p' b0 A n c xs:=
 ⟨Mf.OwnE.keptF h.own k.kept h.off,fun j hj h2=>(k.foot j h2).elim (h.off j hj) (fun h3=>by have:=(OwnE.ltB h.own j hj).2;omega)⟩
theorem Side.below {E:TypeId}{size:Nat}{w w':World}{g:Nat}{p:Pl}{b0:Nat}{A:Option Addr}{n c:Nat}{xs:List Value}(h:Side E size w g p b0 A n c xs)(b:Below w.heap.size w w'):Side E size w' g p b0 A n c xs:=
 ⟨h.own.kept b (yR _),h.off⟩
def Pays (w:World)(g:Nat)(p:Pl)(A:Option Addr)(xs:List Value)(P:List (List Int)):Prop:=
 xs.length=P.length∧ ∀r (h:r<P.length),∃b c,xs[r]? =some (.slice (some ⟨b,0,none⟩) P[r].length c)∧Bytes w (some ⟨b,0,none⟩) P[r]∧b<w.heap.size∧ ¬p.foot g b∧ownB A≠some b
theorem aBc {w w':World}{b:Nat}{l:List Int}(h:Bytes w (some ⟨b,0,none⟩) l)(hs:w.heap.size≤w'.heap.size)(g:w'.heap[b]? =w.heap[b]?):Bytes w' (some ⟨b,0,none⟩) l:=
 ⟨h.1,fun i hi=>by
   obtain⟨b2,c,e,d,f⟩:=h.2 i hi
   injection e with e
   injection e with e1 e2
   subst e1
   exact⟨b,c,by rw[e2],yL d hs,(World.cell?_of_block (a:=⟨b,c+i,none⟩) g).trans f⟩⟩
theorem Pays.path {w w':World}{g:Nat}{p p':Pl}{A:Option Addr}{xs:List Value}{P:List (List Int)}(h:Pays w g p A xs P)(k:Path g p w p' w'):Pays w' g p' A xs P:=
 ⟨h.1,fun r hr=>by
   obtain⟨b,c,j,i,f,d,l⟩:=h.2 r hr
   exact⟨b,c,j,aBc i k.kept.size (k.kept.block b f d),yL f k.kept.size,fun h6=>(k.foot b h6).elim d (fun h7=>by omega),l⟩⟩
theorem Pays.below {w w':World}{g:Nat}{p:Pl}{A:Option Addr}{xs:List Value}{P:List (List Int)}(h:Pays w g p A xs P)(d:Below w.heap.size w w'):Pays w' g p A xs P:=
 ⟨h.1,fun r hr=>by
   obtain⟨b,c,k,j,f,i,l⟩:=h.2 r hr
   exact⟨b,c,k,aBc j d.size (d.block b f),yL f d.size,i,l⟩⟩
theorem Pays.push {w w':World}{g:Nat}{p:Pl}{A m:Option Addr}{xs:List Value}{P:List (List Int)}(h:Pays w g p A xs P)(k:w.grownBy w' (ownB A))(u:ownB m=ownB A∨ownB m=some w.heap.size)(b c:Nat)(l:List Int)(C:Bytes w (some ⟨b,0,none⟩) l)(f:b<w.heap.size)(x: ¬p.foot g b)(hne:ownB A≠some b):
 Pays w' g p m (xs++ [.slice (some ⟨b,0,none⟩) l.length c]) (P++ [l]):=by
 have d: ∀j,j<w.heap.size→ownB A≠some j→ownB m≠some j:=fun j hj i h2=>by
  rcases u with q|q
  ·exact i (q▸h2)
  ·rw[q]at h2
   injection h2 with h2
   omega
 refine⟨by rw[List.length_append,List.length_append,h.1];rfl,fun r hr=>?_⟩
 rw[List.length_append,List.length_singleton]at hr
 rcases Nat.lt_or_ge r P.length with i|i
 ·obtain⟨b2,B,t,y,o,z,s⟩:=h.2 r i
  refine⟨b2,B,?_,?_,yL o k.size,z,d b2 o s⟩
  ·rw[List.getElem_append_left i,List.getElem?_append_left (by rw[h.1];exact i),t]
  ·rw[List.getElem_append_left i]
   exact aBc y k.size (k.block b2 o (fun e=>s e.symm))
 ·have n:r=P.length:=by omega
  subst n
  refine⟨b,c,?_,?_,yL f k.size,x,d b f hne⟩
  ·rw[List.getElem_append_right (yR _),List.getElem?_append_right (by rw[h.1];exact yR _),h.1]
   simp
  ·rw[List.getElem_append_right (yR _)]
   simp only[Nat.sub_self,List.getElem_singleton]
   exact aBc C k.size (k.block b f (fun e=>hne e.symm))
theorem aFw {w:World}{F G:Nat→Prop}{v:Value}{l:List Nat}(h:Arr w F v l)(k:Arr w G v l):Arr w (fun b=>F b∨G b) v l:=by
 obtain⟨A,n,c,e,q,h⟩:=h
 obtain⟨r,n2,s,g,_,k⟩:=k
 rw[e]at g
 injection g with e3 e4 e5
 subst e3
 refine⟨A,n,c,e,q,fun i hi=>?_⟩
 obtain⟨b,f,m,p,j⟩:=h i hi
 obtain⟨b2,d,_,o,_⟩:=k i hi
 rw[f]at d
 injection d with d
 injection d with d
 subst d
 exact⟨b,f,m,fun h=>h.elim p o,j⟩
theorem aIv {w:World}{F G:Nat→Prop}{v:Value}{l:List Nat}(h:Arr w F v l)(c: ∀b,b<w.heap.size→ ¬F b→ ¬G b):Arr w G v l:=h.kept (KeptF.refl (fun _=>False) w) (fun _ _ _ h=>h) c
structure Low (w:World)(b2:Nat)(p:Pl)(m:Mk):Prop where
 da: ∀q∈p.dl,Arr w (fun k=>b2≤k) q.2 q.1.arrays
 ma:Arr w (fun k=>b2≤k) p.M m.main
theorem At.low {w:World}{B g b2:Nat}{p:Pl}{m:Mk}(h:At w B g p m)(c:w.heap.size≤b2):Low w b2 p m:=
 ⟨fun q hq=>aIv (h.da q hq) fun b h1 _ h2=>absurd h1 (by omega),aIv h.ma fun b h1 _ h2=>absurd h1 (by omega)⟩
theorem Low.path {w w':World}{B g b2:Nat}{p p':Pl}{m m':Mk}(h:Low w b2 p m)(c:At w B g p m)(k:Path g p w p' w')(f: ∀x∈p'.dl,x∈p.dl∨(x.2= .slice none 0 0∧x.1.arrays=[]))(d:p'.M=p.M)(i:m'.main=m.main):Low w' b2 p' m':=
 ⟨fun q hq=>(f q hq).elim (fun h1=>(aFw (h.da q h1) (c.da q h1)).kept k.kept (fun b _ h2 h3=>h2 (.inr (.inl h3))) (fun b _ h2 h3=>h2 (.inl h3))) (fun h1=>by rw[h1.1,h1.2];exact Arr.nil _ _),
  by rw[d,i];exact(aFw h.ma c.ma).kept k.kept (fun b _ h2 h3=>h2 (.inr (.inl h3))) (fun b _ h2 h3=>h2 (.inl h3))⟩
theorem At.offA {w w':World}{B g b2:Nat}{p:Pl}{m:Mk}{G:Nat→Prop}(h:At w B g p m)(f:Low w b2 p m)(hk:KeptF G w w')(d: ∀k,G k→b2≤k∧ ¬p.foot g k):At w' B g p m∧Low w' b2 p m:=by
 have c: ∀k,p.foot g k→ ¬G k:=fun k hf hg=>(d k hg).2 hf
 refine⟨{st:=⟨Kf.Blk.keptF h.st.st hk (c _ (.inl rfl)),Kf.Own.keptF h.st.own hk (fun k hk'=>c k (.inr (.inl (by injection hk' with e;exact e.symm)))),h.st.ne⟩
         dr:=Mf.OwnE.keptF h.dr hk (fun k e=>c k (.inr (.inr (.inl e))))
         fr:=Mf.OwnE.keptF h.fr hk (fun k e=>c k (.inr (.inr (.inr e))))
         dm:=h.dm,fm:=h.fm
         da:=fun q hq=>(aFw (h.da q hq) (f.da q hq)).kept hk (fun b _ h1 h2=>h1 (.inr (d b h2).1)) (fun b _ h1 h2=>h1 (.inl h2))
         ma:=(aFw h.ma f.ma).kept hk (fun b _ h1 h2=>h1 (.inr (d b h2).1)) (fun b _ h1 h2=>h1 (.inl h2))
         dg:=h.dg,fg:=h.fg,df:=h.df,gB:=h.gB,fo:=h.fo},?_⟩
 exact⟨fun q hq=>(f.da q hq).kept hk (fun b _ h1 h2=>h1 (d b h2).1) (fun b _ h1 h2=>h1 h2),f.ma.kept hk (fun b _ h1 h2=>h1 (d b h2).1) (fun b _ h1 h2=>h1 h2)⟩
theorem Path.side {w2 w w':World}{g:Nat}{p b:Pl}{G:Nat→Prop}(h:Path g p w2 b w)(d:KeptF G w w')(c: ∀k,G k→w2.heap.size≤k):Path g p w2 b w':=⟨h.foot,h.kept.trans d fun i hi h2=>absurd (c i h2) (by omega)⟩
def iv (l:List Nat):List Value:=l.map fun(x:Nat)=> .int .i64 (x:Int)
theorem aEU (l:List Nat):(iv l).length=l.length:=by simp[iv]
theorem aCI (l:List Nat): ∀u∈iv l,u.oneCell'=true:=fun u hu=>by
 obtain⟨x,_,rfl⟩:=List.mem_map.1 hu
 rfl
theorem intE:Elt 3 22 1 8 (.int .i64 0):=⟨Tryz.underlying22,by kernel_rfl,rfl,by decide⟩
theorem rowE:Elt 24 170 1 24 (.slice none 0 0):=⟨Tryz.underlying170,by kernel_rfl,rfl,by decide⟩
theorem aQq:Elt 175 169 2 16 (.agg #[.int .u64 0,.int .u64 0]):=⟨Tryz.underlying169,by kernel_rfl,rfl,by decide⟩
theorem aAn {E S:TypeId}{size d:Nat}{z:Value}(R:Elt E S size d z){w:World}{k:Array Oper}{o:Oper}{a:Act}{K:Act→World→Prop}{Q:Exit→Act→World→Prop}{F:Prop}(q:o.guard=none)(s x:Operand)
 (r:o.op= .call {callee:= .builtin .append,args:= #[s,x],argTypes:= #[S,S]})
 (base:Nat)(A:Option Addr)(n c:Nat)(xs:List Value)(hs:a.eval s= .slice A n c)(X:OwnE E size w base A n c xs)(p:Option Addr)(m B:Nat)(b:List Value)(I:a.eval x= .slice p m B)(N:Nat)(L:n+m=N)(V:b.length=m*size)
 (g: ∀j u,b[j]? =some u→ ∃ad,p=some ad∧w.cell? (ad.add j)=some u)(H: ∀u∈b,u.oneCell'=true)(y:N≤4611686018427387904)(f:N*d≤140737488355328)(t:N≤maxLen)
 (h: ∀i l w',OwnE E size w' base i N l (xs++b)→w.grownBy w' (ownB A)→(ownB i=ownB A∨ownB i=some w.heap.size)→K (a.put o.dst (.slice i N l)) w'):
 if Region.wanted o (yielded k a.tmps)=true then Oper.wp Tryz.prog o a w K Q else F:=by
 subst L
 have C:Region.wanted o (yielded k a.tmps)=true:=by simp[Region.wanted,q]
 rw[if_pos C]
 obtain⟨i,l,w',G,M,D,J⟩:=aBq R w o.type base A n c xs X p m B b V g H y f t
 unfold Oper.wp execOp
 simp only[r,resolve,invoke,builtin,Sem.run_bind,Sem.run_pure,Result.andThen_ok,List.map_toArray,List.map_cons,List.map_nil,hs,I,G]
 exact h i l w' M D J
theorem aIw {E:TypeId}{size:Nat}{w:World}{base n c:Nat}{A:Option Addr}{xs:List Value}(h:OwnE E size w base A n c xs):n≤c:=by
 rcases h.2.2 with⟨b,j⟩|⟨g,f,i,b,_,_,d,_⟩
 ·injection b with e1 e2 e3
  omega
 ·injection b with e1 e2 e3
  omega
theorem aEe {E:TypeId}{size:Nat}{w:World}{b b2 n c:Nat}{A:Option Addr}{xs:List Value}(h:OwnE E size w b A n c xs)(j:b2≤b):OwnE E size w b2 A n c xs:=by
 refine⟨Nat.le_trans j h.1,h.2.1,?_⟩
 rcases h.2.2 with d|⟨g,f,i,d,l,m,k⟩
 ·exact .inl d
 ·exact .inr ⟨g,f,i,d,Nat.le_trans j l,m,k⟩
theorem intI:(Tryz.prog.info? 3).map (fun i=>(i.zero,i.size,i.bytes))=some (some (.int .i64 0),1,8):=by kernel_rfl
theorem aKC (w:World):(sizeOf 3).run Tryz.prog w= .ok 1 w:=by
 obtain⟨i,c,b⟩:=Option.map_eq_some_iff.1 intI
 simp only[Prod.mk.injEq]at b
 simp[sizeOf,typeInfo,c,b]
theorem aM2:Tryz.prog.elem 22=3:=by kernel_rfl
theorem aPV (A:Option Addr)(len b c:Nat)(d:c≤b)(w:World):
 (Instr.slice 22 (.slice A len b) none (some (.int .i64 c)) none).run Tryz.prog w= .ok (.slice A c b) w:=by
 rw[run_slice_h w _ A len b (by rw[aM2];exact Tryz.underlying22) .i64 c (by omega) (by omega),aM2,aKC]
 cases A with
 |none=>simp[Result.andThen,sliced]
 |some a=>simp[Result.andThen,sliced,Addr.add]
theorem aPW (A:Option Addr)(len b c:Nat)(d:c≤len)(w:World):
 (Instr.slice 22 (.slice A len b) (some (.int .i64 c)) none none).run Tryz.prog w= .ok (.slice (cutA A b c) (len-c) (b-c)) w:=
 aEY _ A len b c w (by rw[aM2];exact aKC w) (by rw[aM2];exact Tryz.underlying22) d
theorem aKD {w:World}{base n c a:Nat}{A:Option Addr}{l:List Nat}(h:OwnE 3 1 w base A n c (iv l))(g:a≤n):(iv (l.take a)).length=a*1∧ ∀j u,(iv (l.take a))[j]? =some u→ ∃ad,A=some ad∧w.cell? (ad.add j)=some u:=by
 obtain⟨f,d⟩:=aFn h
 rw[aEU]at f
 refine⟨by rw[aEU,List.length_take];omega,fun j u hj=>d j u ?_⟩
 unfold iv at hj⊢
 rw[List.getElem?_map]at hj⊢
 obtain⟨x,b,rfl⟩:=Option.map_eq_some_iff.1 hj
 rw[List.getElem?_take]at b
 split at b
 ·rw[b];rfl
 ·cases b
theorem aKE {w:World}{base n c a:Nat}{A:Option Addr}{l:List Nat}(h:OwnE 3 1 w base A n c (iv l))(o:a≤n):(iv (l.drop a)).length=(n-a)*1∧ ∀j u,(iv (l.drop a))[j]? =some u→ ∃ad,cutA A c a=some ad∧w.cell? (ad.add j)=some u:=by
 obtain⟨k,m⟩:=aFn h
 rw[aEU]at k
 refine⟨by rw[aEU,List.length_drop];omega,fun j u hj=>?_⟩
 have f:j<(l.drop a).length:=by
  have:=(List.getElem?_eq_some_iff.1 hj).1
  rw[aEU]at this
  exact this
 rw[List.length_drop]at f
 have g:=aIw h
 have d:(iv l)[a+j]? =some u:=by
  rw[←hj]
  unfold iv
  rw[List.getElem?_map,List.getElem?_map,List.getElem?_drop]
 obtain⟨b,rfl,_,_,i⟩:=OwnE.cell h (List.getElem?_eq_some_iff.1 d).1
 refine⟨⟨b,a,none⟩,?_,?_⟩
 ·rw[aCN,if_neg (by omega),Nat.zero_add]
 ·rw[aAV,i,d]
theorem aGm (w:World)(base:Nat)(h:base≤w.heap.size):OwnE 3 1 (w.alloc (.cells #[] 3)) base (some ⟨w.heap.size,0,none⟩) 0 0 []:=
 ⟨Nat.le_trans h (by simp),World.ownsRow_lit w #[] 0 h (by decide) rfl⟩
theorem aEf {w:World}{base n c:Nat}{A:Option Addr}{l:List Nat}(h:OwnE 3 1 w base A n c (iv l))(i:Nat)(d:i<l.length): ∃b,A=some ⟨b,0,none⟩∧w.cell? ⟨b,i,none⟩=some (.int .i64 ((l.getD i 0:Nat):Int)):=by
 obtain⟨b,e,j,g,f⟩:=h.cell (i:=i) (by rw[aEU];exact d)
 refine⟨b,e,f.trans ?_⟩
 simp[iv,List.getD_eq_getElem?_getD,List.getElem?_eq_getElem d]
def itv (f h:Nat→Int)(n:Nat):List Value:=(List.range n).flatMap fun i=>[.int .u64 (f i),.int .u64 (h i)]
theorem aFx (f h:Nat→Int)(n:Nat):itv f h (n+1)=itv f h n++ [.int .u64 (f n),.int .u64 (h n)]:=by simp[itv,List.range_succ,List.flatMap_append]
theorem aCg (f h:Nat→Int)(n:Nat):(itv f h n).length=n*2:=by
 induction n with
 |zero=>rfl
 |succ n ih=>rw[aFx,List.length_append,ih];simp;omega
theorem aPX (f h:Nat→Int)(n i:Nat)(c:i<n):(itv f h n)[i*2]? =some (.int .u64 (f i))∧(itv f h n)[i*2+1]? =some (.int .u64 (h i)):=by
 induction n with
 |zero=>omega
 |succ n ih=>
  rw[aFx]
  rcases Nat.lt_or_ge i n with b|b
  ·rw[List.getElem?_append_left (by rw[aCg];omega),List.getElem?_append_left (by rw[aCg];omega)]
   exact ih b
  ·obtain rfl:i=n:=by omega
   rw[List.getElem?_append_right (by rw[aCg];omega),List.getElem?_append_right (by rw[aCg];omega),aCg]
   rw[Nat.sub_self,show i*2+1-i*2=1 by omega]
   exact⟨rfl,rfl⟩
theorem own_in2 {w:World}{base n c:Nat}{A:Option Addr}{f h:Nat→Int}(g:OwnE 175 2 w base A n c (itv f h n))(k: ∀i,i<n→0≤f i∧f i≤18446744073709551615)(j: ∀i,i<n→0≤h i∧h i≤18446744073709551615):In2 w A n f h:=fun i hi=>by
 obtain⟨l,p⟩:=aPX f h n i hi
 obtain⟨b,rfl,_,q,m⟩:=OwnE.cell g (i:=i*2) (by rw[aCg];omega)
 obtain⟨b2,d,_,_,o⟩:=OwnE.cell g (i:=i*2+1) (by rw[aCg];omega)
 injection d with d
 injection d with d
 subst d
 exact⟨b,0,rfl,q,by rw[Nat.zero_add,m,l],by rw[Nat.zero_add,o,p],k i hi,j i hi⟩
attribute [local irreducible] Mk.cells wpList Code.wp
theorem aM3 (b0 n u g:Nat)(p:Pl)(A:Option Addr)(xs:List Value)(P:List (List Int))(w:World)(C:OwnE 24 1 w b0 A n u xs)(h:Pays w g p A xs P)(L:n≤1000000)(G: ∀l∈P,l.length≤800000):
 Calls Tryz.prog 81 #[.slice A n u] w fun e w'=>e= .returned (.int .u64 ((xr P:Nat):Int))∧w=w':=by
 have m:P.length=n:=by have:=C.len;rw[h.1,Nat.mul_one]at this;exact this
 obtain⟨o,t⟩: ∃f:Nat→List Int,∀i,f i=P.getD i []:=⟨_,fun i=>rfl⟩
 have B:rowsL o n=P:=by
  apply List.ext_getElem
  ·simp[rowsL,m]
  ·intro i N J;simp[rowsL,t,List.getD_eq_getElem?_getD,List.getElem?_eq_getElem J]
 have H:=yH C
 have F:=yH h
 have y:=yH m
 have B:=yH B
 clear h C m
 go_enter Tryz.func81,Tryz.ntmps81
 go_wp2
 go_loopw [3,4] (fun s i wr=> ∃k:Nat,k≤n∧i= .int .i64 (k:Int)∧s= .int .u64 ((xr (rowsL o k):Nat):Int)∧wr=w) (fun _ i _=>n-(intOf i).toNat)
 case atStart=>exact⟨0,Nat.zero_le _,rfl,rfl,rfl⟩
 case round=>
  obtain⟨k,X,rfl,rfl,rfl⟩:=hrel
  by_cases d:k<n
  ·obtain⟨b,c,E,z,M,R,V⟩:=F.out.2 k (by rw[y.out];exact d)
   obtain⟨b2,rfl,_,_,D⟩:=H.out.cell (i:=k) (by rw[F.out.1,y.out];exact d)
   rw[E]at D
   have r:P[k]'(by rw[y.out];exact d)=o k:=by rw[t,List.getD_eq_getElem?_getD,List.getElem?_eq_getElem (by rw[y.out];exact d)];rfl
   have x:=G _ (List.getElem_mem (by rw[y.out];exact d:k<P.length))
   rw[r]at D z x
   have j:=yH (aEr (some ⟨b,0,none⟩) (o k) _ c wr z rfl x)
   have I:=yH (aHY o k)
   clear E z r
   generalize o k=q at*
   go_wp2_with(first|(go_at_call 135;(with_reducible refine j.out.mono ?_);rintro e w2 ⟨rfl,rfl⟩)|fail)
   go_roundw
   case rel=>exact⟨k+1,by omega,by go_num,by rw[I.out],trivial⟩
   case measure=>simp[intOf];omega
  ·obtain rfl:k=n:=by omega
   go_wp2
   go_ret
   refine⟨?_,rfl⟩
   rw[B.out]
   rfl
end Nh
namespace Nk
open Bytes8 Blk8 Own8 OwnE Ga Ma Kf Mb Mc Md Mf Mg Fb Dc Na Nc Nd Nh
theorem aC2 (m m':Mk)(S:Sl)(j:Nat)(f:m.C=m'.C)(d:m.depth=m'.depth)(h:52≤j→j<142→m'.h.at_ 20 (j-52)=m.h.at_ 20 (j-52)):Mk.at_ m' S j=Mk.at_ m S j:=by
 unfold Mk.at_
 by_cases b:j<142
 ·rw[if_pos b,if_pos b]
  by_cases c:j<52
  ·rw[if_pos c,if_pos c,f]
  ·rw[if_neg c,if_neg c,h (by omega) b]
 ·rw[if_neg b,if_neg b,d]
theorem set_ta (m:Mk)(S:Sl)(v:Int):(Mk.cells m S).set 139 (.int .u32 v)=Mk.cells {m with h:={m.h with ta:=v}} S:=
 aBo _ _ _ _ _ rfl fun j hj=>aC2 _ _ _ _ rfl rfl fun h1 h2=>by
  unfold HD.at_
  repeat' split
  all_goals first|rfl|(exfalso;omega)
theorem set_ti (m:Mk)(S:Sl)(v:Int):(Mk.cells m S).set 140 (.int .u32 v)=Mk.cells {m with h:={m.h with ti:=v}} S:=
 aBo _ _ _ _ _ rfl fun j hj=>aC2 _ _ _ _ rfl rfl fun h1 h2=>by
  unfold HD.at_
  repeat' split
  all_goals first|rfl|(exfalso;omega)
theorem set_te (m:Mk)(S:Sl)(v:Int):(Mk.cells m S).set 141 (.int .u64 v)=Mk.cells {m with h:={m.h with te:=v}} S:=
 aBo _ _ _ _ _ rfl fun j hj=>aC2 _ _ _ _ rfl rfl fun h1 h2=>by
  unfold HD.at_
  repeat' split
  all_goals first|rfl|(exfalso;omega)
theorem get_ta (m:Mk)(S:Sl):(Mk.cells m S)[139]? =some (.int .u32 m.h.ta):=by rw[Mk.get m S _ (by decide)];rfl
theorem get_ti (m:Mk)(S:Sl):(Mk.cells m S)[140]? =some (.int .u32 m.h.ti):=by rw[Mk.get m S _ (by decide)];rfl
theorem get_te (m:Mk)(S:Sl):(Mk.cells m S)[141]? =some (.int .u64 m.h.te):=by rw[Mk.get m S _ (by decide)];rfl
variable {w w' : World} {B g : Nat} {p p' : Pl} {m m' : Mk}
theorem At.cta (h:At w B g p m):w.cell? ⟨g,139,none⟩=some (.int .u32 m.h.ta):=h.st.st.cell (get_ta _ _)
theorem At.cti (h:At w B g p m):w.cell? ⟨g,140,none⟩=some (.int .u32 m.h.ti):=h.st.st.cell (get_ti _ _)
theorem At.cte (h:At w B g p m):w.cell? ⟨g,141,none⟩=some (.int .u64 m.h.te):=h.st.st.cell (get_te _ _)
theorem At.head1 (h:At w B g p m)(i:Nat)(v:Value)(b:HD)(e: ∀S,(Mk.cells m S).set i v=Mk.cells {m with h:=b} S):At (w.setCell ⟨g,i,none⟩ v) B g p {m with h:=b}:=
 Nd.At.struct (S':=0) (v:= .bool true) h i v ⟨by have:=h.st.st.set_ i v;rw[e]at this;exact this,aBD h.st.own h.st.ne _ _,h.st.ne⟩ rfl rfl rfl
theorem At.setTa (h:At w B g p m)(v:Int):At (w.setCell ⟨g,139,none⟩ (.int .u32 v)) B g p {m with h:={m.h with ta:=v}}:=At.head1 h _ _ _ fun S=>set_ta m S v
theorem At.setTi (h:At w B g p m)(v:Int):At (w.setCell ⟨g,140,none⟩ (.int .u32 v)) B g p {m with h:={m.h with ti:=v}}:=At.head1 h _ _ _ fun S=>set_ti m S v
theorem At.setTe (h:At w B g p m)(v:Int):At (w.setCell ⟨g,141,none⟩ (.int .u64 v)) B g p {m with h:={m.h with te:=v}}:=At.head1 h _ _ _ fun S=>set_te m S v
theorem At.setM (h:At w B g p m)(v:Value)(l:List Nat)(c:Arr w (p.away B g) v l):At (w.setCell ⟨g,146,none⟩ v) B g {p with M:=v} {m with main:=l}∧Path g p w {p with M:=v} (w.setCell ⟨g,146,none⟩ v):=by
 have b:=(KeptF.refl (p.foot g) w).setCell (p:=⟨g,146,none⟩) (fun _=>Or.inl rfl) v
 refine⟨h.turn (p':={p with M:=v}) b (fun _ h=> .inl h) ?_ (Mf.OwnE.keptF h.dr (KeptF.set1 w g 146 v) fun j hj e=>(h.dg j hj).1 e) (Mf.OwnE.keptF h.fr (KeptF.set1 w g 146 v) fun j hj e=>(h.fg j hj).1 e) h.dm h.fm (fun q hq=> .inl hq) (.inr (c.kept b (fun _ _ h h2=>h (.inl h2)) fun _ _ h=>h)) h.dg h.fg h.df (fun q hq=> .inl hq),⟨fun _ h=> .inl h,b⟩⟩
 have:=h.st.st.set_ 146 v
 rw[Mk.set_m]at this
 exact MkB.same (m:=m) (m':={m with main:=l}) (S:={p.S with m:=v}) ⟨this,aBD h.st.own h.st.ne _ _,h.st.ne⟩ rfl rfl rfl rfl
end Nk
namespace Nl
open Bytes8 Ga Ma Mb Mc Mf Mg Na Nb Nc Nh
def Mk.bump (m:Mk):Mk:={m with h:=setN m.h 8 (m.h.N 8+1)}
theorem aM4 {m m':Mk}(h:Inv m)(f:m'.C=m.C)(c:m'.b=m.b)(j:m'.datas=m.datas)(k:m'.fields=m.fields)(l:m'.main=m.main)(g:m'.depth=m.depth)
 (d: ∀i,i=2∨i=4∨i=7∨i=8∨i=15∨i=16∨i=18∨i=19→m'.h.N i=m.h.N i):Inv m':=
 {F:=by rw[f];exact h.F
  ds:=by rw[f];exact h.ds
  fs:=by rw[f];exact h.fs
  n2:=by rw[d 2 (by simp)];exact h.n2
  n4:=by rw[d 4 (by simp),show Mk.tf m'=Mk.tf m by unfold Mk.tf;rw[f]];exact h.n4
  len:=by rw[f,c];exact h.len
  l8:=by rw[c];exact h.l8
  dat:=by rw[j,c];exact h.dat
  fld:=by rw[k,c];exact h.fld
  mn:=by rw[d 8 (by simp),l,c];exact h.mn
  n7:=by rw[d 7 (by simp),c];exact h.n7
  n15:=by rw[d 15 (by simp),c];exact h.n15
  n16:=by rw[d 16 (by simp),c];exact h.n16
  n18:=by rw[d 18 (by simp),c];exact h.n18
  n19:=by rw[d 19 (by simp),c];exact h.n19
  dep:=by rw[g,c];exact h.dep
  dn:=by rw[j,c];exact h.dn
  fn:=by rw[k,c];exact h.fn}
theorem aM5 {m m':Mk}(h:Inv m)(f:m'.C=m.C)(c:m'.b=m.b)(j:m'.datas=m.datas)(k:m'.fields=m.fields)(g:m'.depth=m.depth)
 (d: ∀i,i=2∨i=4∨i=7∨i=15∨i=16∨i=18∨i=19→m'.h.N i=m.h.N i)(l: ∃n:Nat,m'.h.N 8=(n:Int)∧Chain m.b.length m'.main n∧n≤m.b.length):Inv m':=
 {F:=by rw[f];exact h.F
  ds:=by rw[f];exact h.ds
  fs:=by rw[f];exact h.fs
  n2:=by rw[d 2 (by simp)];exact h.n2
  n4:=by rw[d 4 (by simp),show Mk.tf m'=Mk.tf m by unfold Mk.tf;rw[f]];exact h.n4
  len:=by rw[f,c];exact h.len
  l8:=by rw[c];exact h.l8
  dat:=by rw[j,c];exact h.dat
  fld:=by rw[k,c];exact h.fld
  mn:=by rw[c];exact l
  n7:=by rw[d 7 (by simp),c];exact h.n7
  n15:=by rw[d 15 (by simp),c];exact h.n15
  n16:=by rw[d 16 (by simp),c];exact h.n16
  n18:=by rw[d 18 (by simp),c];exact h.n18
  n19:=by rw[d 19 (by simp),c];exact h.n19
  dep:=by rw[g,c];exact h.dep
  dn:=by rw[j,c];exact h.dn
  fn:=by rw[k,c];exact h.fn}
theorem aEg (h:HD)(i j:Nat)(v u:Int)(e:i≠j):setN (setN h i v) j u=setN (setN h j u) i v:=by
 unfold setN
 congr 1
 funext k
 by_cases c:k=j
 ·by_cases b:k=i
  ·exact absurd (b.symm.trans c) e
  ·simp[c,b]
   intro d
   exact absurd d.symm e
 ·by_cases b:k=i
  ·simp[c,b]
   intro d
   exact absurd d e
  ·simp[c,b]
theorem aHv (m:Mk)(l:List Int):(Mk.bump m).object l=Mk.bump (m.object l):=by
 unfold Mk.bump Mk.object
 dsimp only
 rw[aEg _ 8 6 _ _ (by decide),aEg _ 8 7 _ _ (by decide)]
 rfl
theorem aKF (m:Mk)(arr:List Nat)(n fr item:Nat):Mk.link (Mk.bump m) arr n fr item=(Mk.bump (Mk.link m arr n fr item).1,(Mk.link m arr n fr item).2):=by
 unfold Mk.link
 by_cases e:n=rooms arr.length
 ·simp only[if_pos e]
  unfold Mk.linkNew
  rw[aHv]
  unfold Mk.bump
  dsimp only
  rw[aEg _ 8 18 _ _ (by decide)]
  rfl
 ·simp only[if_neg e]
  rfl
theorem aBx {m:Mk}(h:Inv m)(item n:Nat)(g:m.h.N 8=(n:Int))(j:Chain m.b.length m.main n)(x:n+1≤m.b.length)(d:184≤m.b.length):
 Inv (Mk.bump (Mk.linked m item n))∧m.b.length≤(Mk.linked m item n).b.length∧(Mk.linked m item n).b.length≤m.b.length+2100∧(Mk.linked m item n).datas=m.datas∧(Mk.linked m item n).C=m.C∧(Mk.linked m item n).h.N 9=m.h.N 9∧(Mk.linked m item n).h.N 8=m.h.N 8:=by
 obtain⟨k,r,o,s,q,u,t,f,y,c,l,p⟩:=aDD h (fr:=176) item j (by omega)
 refine⟨?_,o,s,q,f,?_,?_⟩
 ·refine aM5 k rfl rfl rfl rfl rfl ?_ ⟨n+1,?_,r,by omega⟩
  ·rintro i (rfl|rfl|rfl|rfl|rfl|rfl|rfl)<;>rfl
  ·show(Mk.link m m.main n 176 item).1.h.N 8+1=_
   rw[c 8 (by decide) (by decide) (by decide),g]
   rfl
 ·show(Mk.link m m.main n 176 item).1.h.N 9=_
  exact c 9 (by decide) (by decide) (by decide)
 ·show(Mk.link m m.main n 176 item).1.h.N 8=_
  exact c 8 (by decide) (by decide) (by decide)
structure InvM (L0 i:Nat)(m:Mk):Prop where
 inv:Inv (Mk.bump m)
 cnt: ∀k∈m.datas,k.count≤L0+i
 len:L0+64≤m.b.length
theorem aM6 {m m':Mk}(h:Inv m)(f:m'.C=m.C)(c:m'.b.length=m.b.length)(j:m'.fields=m.fields)(l:m'.main=m.main)(d:m'.h=m.h)(g:m'.depth=m.depth)(i:m'.datas.length=m.datas.length)
 (n: ∀k∈m'.datas,k.at_+64≤m.b.length∧AllB k.text∧k.text.length≤400∧Chain m.b.length k.arrays (k.count-1)∧k.count≤m.b.length):Inv m':=
 {F:=by rw[f];exact h.F
  ds:=by rw[f];exact h.ds
  fs:=by rw[f];exact h.fs
  n2:=by rw[d];exact h.n2
  n4:=by rw[d,show Mk.tf m'=Mk.tf m by unfold Mk.tf;rw[f]];exact h.n4
  len:=by rw[f,c];exact h.len
  l8:=by rw[c];exact h.l8
  dat:=by rw[c];exact n
  fld:=by rw[j,c];exact h.fld
  mn:=by rw[d,l,c];exact h.mn
  n7:=by rw[d,c];exact h.n7
  n15:=by rw[d,c];exact h.n15
  n16:=by rw[d,c];exact h.n16
  n18:=by rw[d,c];exact h.n18
  n19:=by rw[d,c];exact h.n19
  dep:=by rw[g,c];exact h.dep
  dn:=by rw[i,c];exact h.dn
  fn:=by rw[j,c];exact h.fn}
def Mk.hitched (e:Nat)(m:Mk)(j:Nat):Mk×List Nat:=
 if(Mk.kn m j).count=0 then({m with b:=put8 m.b ((Mk.kn m j).at_+40) e},(Mk.kn m j).arrays)
 else((Mk.link m (Mk.kn m j).arrays ((Mk.kn m j).count-1) ((Mk.kn m j).at_+48) e).1,(Mk.link m (Mk.kn m j).arrays ((Mk.kn m j).count-1) ((Mk.kn m j).at_+48) e).2.1)
theorem aC3 (e:Nat)(m:Mk)(j:Nat):Mk.mark e m j={(Mk.hitched e m j).1 with b:=put8 (Mk.hitched e m j).1.b ((Mk.kn m j).at_+56) (((Mk.kn m j).count+1:Nat):Int),datas:=(Mk.hitched e m j).1.datas.set j {Mk.kn m j with count:=(Mk.kn m j).count+1,arrays:=(Mk.hitched e m j).2}}:=rfl
theorem aGn {m:Mk}{j:Nat}(b:j<m.datas.length):Mk.kn m j∈m.datas:=by
 unfold Mk.kn
 rw[List.getD_eq_getElem?_getD,List.getElem?_eq_getElem b]
 exact List.getElem_mem b
theorem aCh {A i:Nat}{m:Mk}(h:InvM A i m)(e j:Nat)(B:j<m.datas.length):
 Inv (Mk.bump (Mk.hitched e m j).1)∧Chain (Mk.hitched e m j).1.b.length (Mk.hitched e m j).2 (Mk.kn m j).count∧m.b.length≤(Mk.hitched e m j).1.b.length∧(Mk.hitched e m j).1.b.length≤m.b.length+2100∧
 (Mk.hitched e m j).1.datas=m.datas∧(Mk.hitched e m j).1.C=m.C∧(Mk.hitched e m j).1.h.N 9=m.h.N 9∧(Mk.hitched e m j).1.h.N 8=m.h.N 8:=by
 obtain⟨u,D,G,f,F⟩:=h.inv.dat _ (show Mk.kn m j∈(Mk.bump m).datas from aGn B)
 have u:(Mk.kn m j).at_+64≤m.b.length:=u
 have f:Chain m.b.length (Mk.kn m j).arrays ((Mk.kn m j).count-1):=f
 unfold Mk.hitched
 by_cases k:(Mk.kn m j).count=0
 ·rw[if_pos k]
  have x:(put8 m.b ((Mk.kn m j).at_+40) (e:Int)).length=m.b.length:=aAp _ _ _ (by omega)
  refine⟨aD0 h.inv x,?_,by show _≤(put8 _ _ _).length;omega,by show(put8 _ _ _).length≤_;omega,rfl,rfl,rfl,rfl⟩
  show Chain (put8 _ _ _).length _ _
  rw[x,k]
  rw[k]at f
  exact f
 ·rw[if_neg k]
  obtain⟨n,q,o,r,p,t,s,l,y,c,d,g⟩:=aDD h.inv (fr:=(Mk.kn m j).at_+48) e (show Chain (Mk.bump m).b.length _ _ from f) (show _≤m.b.length by omega)
  rw[aKF]at n q o r p t s l y c d g
  dsimp only at n q o r p t s l y c d g
  refine⟨n,?_,o,r,p,l,?_,?_⟩
  ·rw[show(Mk.kn m j).count=(Mk.kn m j).count-1+1 by omega]
   exact q
  ·exact c 9 (by decide) (by decide) (by decide)
  ·have z:=c 8 (by decide) (by decide) (by decide)
   have E:(Mk.link m (Mk.kn m j).arrays ((Mk.kn m j).count-1) ((Mk.kn m j).at_+48) e).1.h.N 8+1=m.h.N 8+1:=z
   show(Mk.link m (Mk.kn m j).arrays ((Mk.kn m j).count-1) ((Mk.kn m j).at_+48) e).1.h.N 8=m.h.N 8
   omega
theorem aFy {o i:Nat}{m:Mk}(h:InvM o i m)(e j:Nat)(g:j<m.datas.length)(D:i<16):
 InvM o (i+1) (Mk.mark e m j)∧m.b.length≤(Mk.mark e m j).b.length∧(Mk.mark e m j).b.length≤m.b.length+2100∧(Mk.mark e m j).datas.length=m.datas.length∧(Mk.mark e m j).C=m.C∧(Mk.mark e m j).h.N 9=m.h.N 9∧(Mk.mark e m j).h.N 8=m.h.N 8:=by
 obtain⟨l,x,B,F,f,t,r,q⟩:=aCh h e j g
 obtain⟨n,s,y,A,E⟩:=h.inv.dat _ (show Mk.kn m j∈(Mk.bump m).datas from aGn g)
 have n:(Mk.kn m j).at_+64≤m.b.length:=n
 have z:=h.cnt _ (aGn g)
 have p:=h.len
 rw[aC3]
 have u:(put8 (Mk.hitched e m j).1.b ((Mk.kn m j).at_+56) (((Mk.kn m j).count+1:Nat):Int)).length=(Mk.hitched e m j).1.b.length:=aAp _ _ _ (by omega)
 have d:((Mk.hitched e m j).1.datas.set j {Mk.kn m j with count:=(Mk.kn m j).count+1,arrays:=(Mk.hitched e m j).2}).length=m.datas.length:=by rw[List.length_set,f]
 refine⟨⟨?_,?_,?_⟩,?_,?_,d,t,r,q⟩
 ·refine aM6 l rfl u rfl rfl rfl rfl (d.trans (congrArg List.length f).symm) ?_
  intro k c
  rcases List.mem_or_eq_of_mem_set (show k∈(Mk.hitched e m j).1.datas.set j _ from c)with c|c
  ·exact l.dat k c
  ·rw[c]
   exact⟨show(Mk.kn m j).at_+64≤(Mk.hitched e m j).1.b.length by omega,s,y,x,show(Mk.kn m j).count+1≤(Mk.hitched e m j).1.b.length by omega⟩
 ·intro k c
  rcases List.mem_or_eq_of_mem_set (show k∈(Mk.hitched e m j).1.datas.set j _ from c)with c|c
  ·rw[f]at c
   have:=h.cnt k c
   omega
  ·rw[c]
   show(Mk.kn m j).count+1≤_
   omega
 ·show _≤(put8 _ _ _).length
  omega
 ·show _≤(put8 _ _ _).length
  omega
 ·show(put8 _ _ _).length≤_
  omega
theorem aAL {d:Nat}{m:Mk}(h:InvM d 0 m)(e:Nat)(who:List Nat)(f: ∀x∈who,x<m.datas.length)(c:who.length≤16): ∀i,i≤who.length→
 InvM d i (Mk.markAll e m (who.take i))∧m.b.length≤(Mk.markAll e m (who.take i)).b.length∧(Mk.markAll e m (who.take i)).b.length≤m.b.length+2100*i∧(Mk.markAll e m (who.take i)).datas.length=m.datas.length∧(Mk.markAll e m (who.take i)).C=m.C∧(Mk.markAll e m (who.take i)).h.N 9=m.h.N 9∧(Mk.markAll e m (who.take i)).h.N 8=m.h.N 8
 |0,_=>by
  rw[show Mk.markAll e m (who.take 0)=m by rw[List.take_zero];rfl]
  refine⟨h,yR _,?_,rfl,rfl,rfl,rfl⟩
  exact Nat.le_add_right _ _
 |i+1,hi=>by
  obtain⟨h1,h2,h3,h4,h5,h6,h7⟩:=aAL h e who f c i (by omega)
  rw[aBk e m who i (by omega)]
  obtain⟨k,j,p,o,g,n,l⟩:=aFy h1 e who[i] (by rw[h4];exact f _ (List.getElem_mem _)) (by omega)
  exact⟨k,Nat.le_trans h2 j,by omega,o.trans h4,g.trans h5,n.trans h6,l.trans h7⟩
theorem aM7 {m:Mk}(h:Inv (Mk.bump m))(n:Nat)(c real mono:Int)(b:Nat→Int)(te:Nat):Inv (Mk.told m n c real mono b te):=by
 refine aM4 h rfl rfl rfl rfl rfl rfl ?_
 unfold Mk.told Mk.bump
 dsimp only
 by_cases d:n=0
 ·rw[if_pos d]
  rintro i (rfl|rfl|rfl|rfl|rfl|rfl|rfl|rfl)<;>rfl
 ·rw[if_neg d]
  rintro i (rfl|rfl|rfl|rfl|rfl|rfl|rfl|rfl)<;>rfl
end Nl
namespace Nm
open Bytes8 Blk8 Own8 OwnA OwnE Od Ga Ma Kf Mb Mc Md Mf Mg Fa Fb Dc Na Nc Nd Nh Nk
theorem aCJ {w:World}{F:Nat→Prop}{v:Value}{l:List Nat}(h:Arr w F v l){K:Nat}{s:ByteArray}{r:List Value}{q:TypeId}(j:Blk w K (.string s::r) q):Arr w (fun b=>F b∨b=K) v l:=by
 obtain⟨A,n,c,e,p,h⟩:=h
 refine⟨A,n,c,e,p,fun i hi=>?_⟩
 obtain⟨b,f,m,o,k⟩:=h i hi
 refine⟨b,f,m,fun h5=>h5.elim o fun h6=>?_,k⟩
 subst h6
 obtain⟨b2,d,_,_,g⟩:=h 0 (by omega)
 rw[f]at d
 injection d with d
 injection d with d
 subst d
 rw[j.cell (i:=0) rfl]at g
 cases g
theorem aOb: ∀(l:List (Kn×Value)) (x:Nat),x<l.length→ ∀(k:Kn) (v:Value),kf (l.set x (k,v))=(((((kf l).set (x*5) (.string (T k.text))).set (x*5+1) (.int .u64 (k.at_:Int))).set (x*5+2) (.int .i64 (k.slot:Int))).set (x*5+3) (.int .i64 (k.count:Int))).set (x*5+4) v
 | [],x,h,_,_=>absurd h (Nat.not_lt_zero _)
 |p::l,0,_,k,v=>by
  have e: ∀(q:Kn×Value) (r:List (Kn×Value)),kf (q::r)=knC q.1 q.2++kf r:=fun q r=>by simp[kf]
  rw[List.set_cons_zero,e,e]
  rfl
 |p::l,x+1,h,k,v=>by
  have e: ∀(q:Kn×Value) (r:List (Kn×Value)),kf (q::r)=knC q.1 q.2++kf r:=fun q r=>by simp[kf]
  rw[List.set_cons_succ,e,e,aOb l x (by simpa using h) k v]
  have b:(x+1)*5=x*5+5:=by omega
  rw[b,show x*5+5+1=x*5+1+5 by omega,show x*5+5+2=x*5+2+5 by omega,show x*5+5+3=x*5+3+5 by omega,show x*5+5+4=x*5+4+5 by omega]
  rfl
theorem aCK {E:TypeId}{size:Nat}{w:World}{base n c g:Nat}{xs:List Value}(h:OwnE E size w base (some ⟨g,0,none⟩) n c xs)(j:Nat)(u:Value):OwnE E size (w.setCell ⟨g,j,none⟩ u) base (some ⟨g,0,none⟩) n c (xs.set j u):=
 ⟨by simpa using h.1,(h.2.stored j u).1⟩
variable {w w' : World} {B g : Nat} {p p' : Pl} {m m' : Mk}
theorem At.setK (h:At w B g p m){K:Nat}{s:ByteArray}{r:List Value}{f:TypeId}(d:Blk w K (.string s::r) f)(j: ¬p.foot g K)(i:Nat)(v:Value):At (w.setCell ⟨K,i,none⟩ v) B g p m:=by
 have hk:=KeptF.set1 w K i v
 have c: ∀k,p.foot g k→ ¬One K k:=fun k h1 h2=>j ((show k=K from h2)▸h1)
 exact
  {st:=⟨Kf.Blk.keptF h.st.st hk (c _ (.inl rfl)),Kf.Own.keptF h.st.own hk (fun k hk'=>c k (.inr (.inl (by injection hk' with e;exact e.symm)))),h.st.ne⟩
   dr:=Mf.OwnE.keptF h.dr hk (fun k e=>c k (.inr (.inr (.inl e))))
   fr:=Mf.OwnE.keptF h.fr hk (fun k e=>c k (.inr (.inr (.inr e))))
   dm:=h.dm,fm:=h.fm
   da:=fun q hq=>(aCJ (h.da q hq) d).kept hk (fun b _ h1 h2=>h1 (.inr h2)) (fun b _ h1 h2=>h1 (.inl h2))
   ma:=(aCJ h.ma d).kept hk (fun b _ h1 h2=>h1 (.inr h2)) (fun b _ h1 h2=>h1 (.inl h2))
   dg:=h.dg,fg:=h.fg,df:=h.df,gB:=h.gB,fo:=h.fo}
theorem At.setD (h:At w B g p m)(x:Nat)(t:x<p.dl.length)(b:Nat)(r:p.D=some ⟨b,0,none⟩)(c:Kn)(d:Value)(u:Arr w (p.away B g) d c.arrays):
 At (w.setCells b (x*5) (knC c d)) B g {p with dl:=p.dl.set x (c,d)} {m with datas:=m.datas.set x c}∧Path g p w {p with dl:=p.dl.set x (c,d)} (w.setCells b (x*5) (knC c d)):=by
 have l:ownB p.D=some b:=by rw[r];rfl
 have e:w.setCells b (x*5) (knC c d)=((((w.setCell ⟨b,x*5,none⟩ (.string (T c.text))).setCell ⟨b,x*5+1,none⟩ (.int .u64 (c.at_:Int))).setCell ⟨b,x*5+2,none⟩ (.int .i64 (c.slot:Int))).setCell ⟨b,x*5+3,none⟩ (.int .i64 (c.count:Int))).setCell ⟨b,x*5+4,none⟩ d:=rfl
 have k:KeptF (One b) w (w.setCells b (x*5) (knC c d)):=by
  rw[e]
  exact((((KeptF.set1 w b _ _).setCell (p:=⟨b,x*5+1,none⟩) (fun _=>rfl) _).setCell (p:=⟨b,x*5+2,none⟩) (fun _=>rfl) _).setCell (p:=⟨b,x*5+3,none⟩) (fun _=>rfl) _).setCell (p:=⟨b,x*5+4,none⟩) (fun _=>rfl) _
 have s:KeptF (p.foot g) w (w.setCells b (x*5) (knC c d)):=k.mono fun i hi=> .inr (.inr (.inl (by rw[show i=b from hi];exact l)))
 refine⟨h.turn (p':={p with dl:=p.dl.set x (c,d)}) s (fun _ h=> .inl h) ?_ ?_ ?_ ?_ h.fm ?_ (.inl ⟨rfl,rfl⟩) h.dg h.fg h.df (fun q o=> .inl o),⟨fun _ h=> .inl h,s⟩⟩
 ·have n:MkB (w.setCells b (x*5) (knC c d)) B g p.bb p.cb p.S m:=
   ⟨Kf.Blk.keptF h.st.st k (fun f=>(h.dg b l).1 (show g=b from f).symm),Kf.Own.keptF h.st.own k (fun j hj f=>(h.dg b l).2 (by injection hj with hj;exact((show j=b from f).symm.trans hj.symm))),h.st.ne⟩
  exact MkB.same n rfl rfl rfl rfl
 ·have n:=h.dr
  rw[r]at n
  have f:=aCK (aCK (aCK (aCK (aCK n (x*5) (.string (T c.text))) (x*5+1) (.int .u64 (c.at_:Int))) (x*5+2) (.int .i64 (c.slot:Int))) (x*5+3) (.int .i64 (c.count:Int))) (x*5+4) d
  rw[←aOb p.dl x t c d,←e,←r]at f
  exact f
 ·exact Mf.OwnE.keptF h.fr k (fun j hj f=>h.df b l ((show j=b from f)▸hj))
 ·show(p.dl.set x (c,d)).map Prod.fst=m.datas.set x c
  rw[List.map_set,h.dm]
 ·intro q o
  rcases List.mem_or_eq_of_mem_set (show q∈p.dl.set x (c,d)from o)with n|n
  ·exact .inl n
  ·right
   rw[n]
   exact u.kept s (fun _ _ h f=>h (.inl f)) fun _ _ h=>h
end Nm
namespace No
open Bytes8 Blk8 Own8 OwnE Ob Od Ga Ma Kf Mb Mc Md Mf Mg Fb Dc Na Nc Nd Nh Nk Nm
theorem At.offB {w w':World}{B g:Nat}{p:Pl}{m:Mk}{G:Nat→Prop}(h:At w B g p m)(hk:KeptF G w w')(i: ∀k,G k→k<B):At w' B g p m:=by
 have c: ∀k,p.foot g k→ ¬G k:=fun k hf hg=>by have f:=(At.lt h k hf).1;have d:=i k hg;omega
 exact
  {st:=⟨Kf.Blk.keptF h.st.st hk (c _ (.inl rfl)),Kf.Own.keptF h.st.own hk (fun k hk'=>c k (.inr (.inl (by injection hk' with e;exact e.symm)))),h.st.ne⟩
   dr:=Mf.OwnE.keptF h.dr hk (fun k e=>c k (.inr (.inr (.inl e))))
   fr:=Mf.OwnE.keptF h.fr hk (fun k e=>c k (.inr (.inr (.inr e))))
   dm:=h.dm,fm:=h.fm
   da:=fun q hq=>(h.da q hq).kept hk (fun b _ f d=>f (.inr (i b d))) (fun _ _ h=>h)
   ma:=h.ma.kept hk (fun b _ f d=>f (.inr (i b d))) (fun _ _ h=>h)
   dg:=h.dg,fg:=h.fg,df:=h.df,gB:=h.gB,fo:=h.fo}
theorem aDq (w:World)(g:Nat)(b:Array Value):KeptF (One g) w (w.setRow g b):=by
 have c:Below 0 w w:=Below.refl _ _
 refine⟨?_,?_,?_,?_,fun k hk hne=>?_⟩
 ·rfl
 ·rfl
 ·rfl
 ·simp
 ·exact setRow_other w g k b hne
theorem At.restore {w:World}{B l g n:Nat}{d:Pl}{m:Mk}(h:At w l n d m)(old:Array Value)(o:w.heap[g]? =some (.cells old 157 (0,0)))(j:B≤g)(f:g<l):
 At (w.setRow g (Mk.cells m {d.S with b:= .slice (some ⟨d.bb,0,none⟩) m.b.length d.cb}).toArray) B g d m:=by
 have hk:=aDq w g (Mk.cells m {d.S with b:= .slice (some ⟨d.bb,0,none⟩) m.b.length d.cb}).toArray
 have i:=At.lt h
 have c: ∀k,d.foot n k→k≠g:=fun k hf e=>by have:=(i k hf).1;omega
 exact
  {st:=⟨setRow_heap _ g _ _ 157 (0,0) o,Own.base (Kf.Own.keptF h.st.own hk (fun k hk' e=>c k (.inr (.inl (by injection hk' with e;exact e.symm))) e)) (by omega),fun e=>c d.bb (.inr (.inl rfl)) e.symm⟩
   dr:=aEe (Mf.OwnE.keptF h.dr hk (fun k e e2=>c k (.inr (.inr (.inl e))) e2)) (by omega)
   fr:=aEe (Mf.OwnE.keptF h.fr hk (fun k e e2=>c k (.inr (.inr (.inr e))) e2)) (by omega)
   dm:=h.dm,fm:=h.fm
   da:=fun q hq=>(h.da q hq).kept hk (fun b _ h1 h2=>h1 (.inr (by rw[show b=g from h2];exact f))) (fun b _ h1 h2=>h1 (h2.elim (fun h3=>h3.elim (fun h4=> .inr (by rw[h4];exact f)) (fun h4=> .inl (.inr h4))) (fun h3=> .inr (by omega))))
   ma:=h.ma.kept hk (fun b _ h1 h2=>h1 (.inr (by rw[show b=g from h2];exact f))) (fun b _ h1 h2=>h1 (h2.elim (fun h3=>h3.elim (fun h4=> .inr (by rw[h4];exact f)) (fun h4=> .inl (.inr h4))) (fun h3=> .inr (by omega))))
   dg:=fun k hk'=>⟨c k (.inr (.inr (.inl hk'))),(h.dg k hk').2⟩
   fg:=fun k hk'=>⟨c k (.inr (.inr (.inr hk'))),(h.fg k hk').2⟩
   df:=h.df,gB:=j,fo:=h.fo}
theorem aQr (m:Mk)(S:Sl)(k:Nat)(b:k<64)(v:Int):(Mk.cells m S).set (55+k) (.int .u8 v)=Mk.cells {m with h:={m.h with I:=fun j=>if j=k then v else m.h.I j}} S:=by
 refine aBo _ _ _ _ _ ?_ fun j hj=>aC2 _ _ _ _ rfl rfl fun h1 h2=>?_
 ·unfold Mk.at_
  rw[if_pos (by omega),if_neg (by omega)]
  unfold HD.at_
  rw[if_neg (by omega),if_pos (by omega)]
  dsimp only
  rw[if_pos (by omega)]
 ·unfold HD.at_
  dsimp only
  repeat' split
  all_goals first|rfl|(exfalso;omega)
variable {w : World} {B g : Nat} {p : Pl} {m : Mk}
theorem At.setI (h:At w B g p m)(k n:Nat)(c:k<64)(b:n=55+k)(v:Int):At (w.setCell ⟨g,n,none⟩ (.int .u8 v)) B g p {m with h:={m.h with I:=fun j=>if j=k then v else m.h.I j}}:=by
 subst b
 exact Nk.At.head1 h _ _ _ fun S=>aQr m S k c v
def upI (f:Nat→Int)(k:Nat)(v:Int):Nat→Int:=fun j=>if j=k then v else f j
theorem At.setI2 (b:Nat→Int)(h:At w B g p {m with h:={m.h with I:=b}})(k n:Nat)(d:k<64)(c:n=55+k)(v:Int):At (w.setCell ⟨g,n,none⟩ (.int .u8 v)) B g p {m with h:={m.h with I:=upI b k v}}:=At.setI h k n d c v
def upBoot (f K:Nat→Int):Nat→Int:=(upI (upI (upI (upI (upI (upI (upI (upI (upI (upI (upI (upI (upI (upI (upI (upI f 32 (K 0)) 33 (K 1)) 34 (K 2)) 35 (K 3)) 36 (K 4)) 37 (K 5)) 38 (K 6)) 39 (K 7)) 40 (K 8)) 41 (K 9)) 42 (K 10)) 43 (K 11)) 44 (K 12)) 45 (K 13)) 46 (K 14)) 47 (K 15))
theorem aKG (f K:Nat→Int):upBoot f K=fun i=>if 32≤i∧i<48 then K (i-32)else f i:=by
 funext i
 unfold upBoot
 by_cases b:32≤i∧i<48
 ·rw[if_pos b]
  obtain⟨j,rfl⟩: ∃j,i=32+j:=⟨i-32,by omega⟩
  have c:j<16:=by omega
  rcases j with _|_|_|_|_|_|_|_|_|_|_|_|_|_|_|_|j
  all_goals first|rfl|(exfalso;omega)
 ·rw[if_neg b]
  unfold upI
  repeat rw[if_neg (by omega)]
theorem At.setBoot (h:At w B g p m)(K:Nat→Int):At (w.setCells g 87 [.int .u8 (K 0),.int .u8 (K 1),.int .u8 (K 2),.int .u8 (K 3),.int .u8 (K 4),.int .u8 (K 5),.int .u8 (K 6),.int .u8 (K 7),.int .u8 (K 8),.int .u8 (K 9),.int .u8 (K 10),.int .u8 (K 11),.int .u8 (K 12),.int .u8 (K 13),.int .u8 (K 14),.int .u8 (K 15)]) B g p {m with h:={m.h with I:=fun i=>if 32≤i∧i<48 then K (i-32)else m.h.I i}}:=by
 have u:=At.setI2 m.h.I h 32 87 (by decide) rfl (K 0)
 have x:=At.setI2 _ u 33 88 (by decide) rfl (K 1)
 have q:=At.setI2 _ x 34 89 (by decide) rfl (K 2)
 have s:=At.setI2 _ q 35 90 (by decide) rfl (K 3)
 have o:=At.setI2 _ s 36 91 (by decide) rfl (K 4)
 have y:=At.setI2 _ o 37 92 (by decide) rfl (K 5)
 have n:=At.setI2 _ y 38 93 (by decide) rfl (K 6)
 have t:=At.setI2 _ n 39 94 (by decide) rfl (K 7)
 have l:=At.setI2 _ t 40 95 (by decide) rfl (K 8)
 have r:=At.setI2 _ l 41 96 (by decide) rfl (K 9)
 have b:=At.setI2 _ r 42 97 (by decide) rfl (K 10)
 have d:=At.setI2 _ b 43 98 (by decide) rfl (K 11)
 have f:=At.setI2 _ d 44 99 (by decide) rfl (K 12)
 have j:=At.setI2 _ f 45 100 (by decide) rfl (K 13)
 have c:=At.setI2 _ j 46 101 (by decide) rfl (K 14)
 have k:=At.setI2 _ c 47 102 (by decide) rfl (K 15)
 have e:=aKG m.h.I K
 rw[←e]
 exact k
theorem Path.setCells {g:Nat}{p c:Pl}{w w1:World}(b:List Value): ∀(o:Nat) (w1:World),Path g p w c w1→Path g p w c (w1.setCells g o b):=by
 induction b with
 |nil=>exact fun o w1 h=>h
 |cons v r ih=>exact fun o w1 h=>ih (o+1) _ (h.set o v)
theorem At.setNh (b:HD)(h:At w B g p {m with h:=b})(i k:Nat)(d:i<20)(c:k=119+i)(v:Int):At (w.setCell ⟨g,k,none⟩ (.int .u64 v)) B g p {m with h:=setN b i v}:=Nd.At.setN h i k d c v
theorem At.setBooth (b:HD)(h:At w B g p {m with h:=b})(K:Nat→Int):At (w.setCells g 87 [.int .u8 (K 0),.int .u8 (K 1),.int .u8 (K 2),.int .u8 (K 3),.int .u8 (K 4),.int .u8 (K 5),.int .u8 (K 6),.int .u8 (K 7),.int .u8 (K 8),.int .u8 (K 9),.int .u8 (K 10),.int .u8 (K 11),.int .u8 (K 12),.int .u8 (K 13),.int .u8 (K 14),.int .u8 (K 15)]) B g p {m with h:={b with I:=fun i=>if 32≤i∧i<48 then K (i-32)else b.I i}}:=At.setBoot h K
theorem At.setTeh (b:HD)(h:At w B g p {m with h:=b})(v:Int):At (w.setCell ⟨g,141,none⟩ (.int .u64 v)) B g p {m with h:={b with te:=v}}:=Nk.At.setTe h v
theorem At.flat (h:At w B g p m):At w B g p {m with h:=m.h}:=h
end No
end Go.Proofs.YtlelnfokffflnaaGreat
