/-
  Texts beneath the proof.
-/
import Derived.Test.YtiddkgcafpaekaaGreatJq21
set_option linter.unusedVariables false
set_option linter.unusedSimpArgs false
set_option maxRecDepth 100000
set_option maxHeartbeats 1000000
open Go.ChangeShapes Go.WideShapes Go.ChangeAt Go.RowKit
namespace Go.Proofs.YtiddkgcafpaekaaGreat
namespace Nh
open Bytes8 Blk8 Own8 OwnA OwnE Rows2 Ob Od Ga Ma Kf Mb Mc Md Mf Mg Fa Fb Dc Yc Yd Na Nb Nc Nd Nf Hm Se Ya Pr8 Pl8
def Mk.kn (m:Mk)(i:Nat):Kn:=m.datas.getD i ⟨[],0,0,0,[]⟩
def posW (f:Nat→Nat)(x:Nat)(who:List Nat):Nat→Nat
 |0=>0
 |j+1=>if x<f (who.getD j 0)then posW f x who j else j+1
theorem posW_le (f:Nat→Nat)(x:Nat)(who:List Nat): ∀j,posW f x who j≤j
 |0=>yR _
 |j+1=>by
  unfold posW
  split
  ·exact Nat.le_trans (posW_le f x who j) (Nat.le_succ _)
  ·exact yR _
def insW (f:Nat→Nat)(who:List Nat)(k:Nat):List Nat:=who.take (posW f (f k) who who.length)++k::who.drop (posW f (f k) who who.length)
theorem insW_len (f:Nat→Nat)(who:List Nat)(k:Nat):(insW f who k).length=who.length+1:=by
 have:=posW_le f (f k) who who.length
 unfold insW
 rw[List.length_append,List.length_cons,List.length_take,List.length_drop]
 omega
theorem insW_mem {f:Nat→Nat}{who:List Nat}{k x:Nat}(h:x∈insW f who k):x=k∨x∈who:=by
 unfold insW at h
 rcases List.mem_append.1 h with h|h
 ·exact .inr (List.mem_of_mem_take h)
 ·rcases List.mem_cons.1 h with h|h
  ·exact .inl h
  ·exact .inr (List.mem_of_mem_drop h)
def dataStep (s:Mk×List Nat)(q:PR):Mk×List Nat:=
 let r:=Mk.dataOf s.1 q.1 (pay q.1 q.2)
 (r.2,insW (fun i=>(Mk.kn r.2 i).at_) s.2 r.1)
def Mk.dataAll (m:Mk)(l:List PR):Mk×List Nat:=l.foldl dataStep (m,[])
theorem dataAll_step (m:Mk)(l:List PR)(k:Nat)(h:k<l.length):Mk.dataAll m (l.take (k+1))=dataStep (Mk.dataAll m (l.take k)) l[k]:=by
 unfold Mk.dataAll
 rw[List.take_succ_eq_append_getElem h,List.foldl_append]
 rfl
theorem idxK_some {l:List Kn}{s:List Int}{i:Nat}(h:idxK l s=some i):i<l.length:=by
 unfold idxK at h
 exact(List.findIdx?_eq_some_iff_getElem.1 h).1
structure DKeeps (m m':Mk):Prop where
 C:m'.C=m.C
 main:m'.main=m.main
 n8:m'.h.N 8=m.h.N 8
 n9:m'.h.N 9=m.h.N 9
 len:m.b.length≤m'.b.length
 datas:m.datas.length≤m'.datas.length
theorem DKeeps.refl (m:Mk):DKeeps m m:=⟨rfl,rfl,rfl,rfl,yR _,yR _⟩
theorem DKeeps.trans {a b c:Mk}(h:DKeeps a b)(k:DKeeps b c):DKeeps a c:=⟨k.C.trans h.C,k.main.trans h.main,k.n8.trans h.n8,k.n9.trans h.n9,Nat.le_trans h.len k.len,Nat.le_trans h.datas k.datas⟩
theorem inv_dataOf {m:Mk}(h:Inv m)(nm s:List Int)(hn:AllB nm)(hnl:nm.length≤64)(hs:AllB s)(hsl:s.length≤400):
 Inv (Mk.dataOf m nm s).2∧(Mk.dataOf m nm s).1<(Mk.dataOf m nm s).2.datas.length∧(Mk.dataOf m nm s).2.b.length≤m.b.length+600∧DKeeps m (Mk.dataOf m nm s).2:=by
 unfold Mk.dataOf
 cases e:idxK m.datas s with
 |some i=>exact⟨h,idxK_some e,Nat.le_add_right _ _,DKeeps.refl _⟩
 |none=>
  obtain⟨h1,h2,h3,h4,h5,h6,h7,h8⟩:=inv_dataNew h nm s hn hnl hs hsl
  refine⟨h1,?_,h3,h5,h6,h7,h8,h2,?_⟩
  ·show m.datas.length<(Mk.dataNew m nm s).datas.length
   rw[h4,List.length_append,List.length_singleton]
   exact Nat.lt_succ_self _
  ·show m.datas.length≤(Mk.dataNew m nm s).datas.length
   rw[h4,List.length_append]
   exact Nat.le_add_right _ _
theorem inv_dataAll {m:Mk}(h:Inv m)(l:List PR)(hl: ∀q∈l,AllB q.1∧AllB q.2∧q.1.length≤64∧q.2.length≤256): ∀k,k≤l.length→
 Inv (Mk.dataAll m (l.take k)).1∧(Mk.dataAll m (l.take k)).2.length=k∧(∀x∈(Mk.dataAll m (l.take k)).2,x<(Mk.dataAll m (l.take k)).1.datas.length)∧(Mk.dataAll m (l.take k)).1.b.length≤m.b.length+600*k∧DKeeps m (Mk.dataAll m (l.take k)).1
 |0,_=>by
  refine⟨h,rfl,?_,yR _,DKeeps.refl _⟩
  intro x hx
  exact absurd hx (List.not_mem_nil)
 |k+1,hk=>by
  obtain⟨h1,h2,h3,h4,h5⟩:=inv_dataAll h l hl k (by omega)
  obtain⟨q1,q2,q3,q4⟩:=hl l[k] (List.getElem_mem _)
  have hp:(pay l[k].1 l[k].2).length≤400:=by rw[Nee.pay_len];omega
  obtain⟨d1,d2,d3,d4⟩:=inv_dataOf h1 l[k].1 (pay l[k].1 l[k].2) q1 q3 (pay_all q1 q2) hp
  rw[dataAll_step m l k (by omega)]
  refine⟨d1,?_,?_,?_,h5.trans d4⟩
  ·show(insW _ _ _).length=_
   rw[insW_len,h2]
  ·intro x hx
   rcases insW_mem hx with rfl|hx
   ·exact d2
   ·exact yL (h3 x hx) d4.datas
  ·show(Mk.dataOf _ _ _).2.b.length≤_
   omega
def Mk.eobj (m:Mk)(who:List Nat)(ps:List (List Int))(seq real mono:Int)(boot:Nat→Int):List Int:=
 objB 3 (entB seq real mono boot ((xr ps:Nat):Int) (prs (fun i=>((Mk.kn m (who.getD i 0)).at_:Int)) (fun i=>Mk.sum m (Mk.kn m (who.getD i 0)).text) who.length))
def Mk.linked (m:Mk)(at_:Nat)(n:Nat):Mk:=
 let r:=Mk.link m m.main n 176 at_
 {r.1 with main:=r.2.1,h:={setN r.1.h 11 ((r.2.1.getD 0 0:Nat):Int)with ta:=((r.2.1.getLastD 0:Nat):Int),ti:=((r.2.2:Nat):Int)}}
def Mk.mark (e:Nat)(m:Mk)(j:Nat):Mk:=
 let d:=Mk.kn m j
 let r:Mk×List Nat:=if d.count=0 then({m with b:=put8 m.b (d.at_+40) e},d.arrays)else((Mk.link m d.arrays (d.count-1) (d.at_+48) e).1,(Mk.link m d.arrays (d.count-1) (d.at_+48) e).2.1)
 {r.1 with b:=put8 r.1.b (d.at_+56) ((d.count+1:Nat):Int),datas:=r.1.datas.set j {d with count:=d.count+1,arrays:=r.2}}
def Mk.markAll (e:Nat)(m:Mk)(who:List Nat):Mk:=who.foldl (Mk.mark e) m
theorem markAll_step (e:Nat)(m:Mk)(who:List Nat)(k:Nat)(h:k<who.length):Mk.markAll e m (who.take (k+1))=Mk.mark e (Mk.markAll e m (who.take k)) who[k]:=by
 unfold Mk.markAll
 rw[List.take_succ_eq_append_getElem h,List.foldl_append]
 rfl
def Mk.grown (m:Mk)(l:List PR)(real mono:Int)(boot:Nat→Int):Mk:=
 let s:=Mk.dataAll m l
 let m2:=s.1.object (Mk.eobj s.1 s.2 (l.map fun q=>pay q.1 q.2) (m.h.N 9+1) real mono boot)
 Mk.markAll s.1.b.length (Mk.linked m2 s.1.b.length (m.h.N 8).toNat) s.2
def Mk.told (m:Mk)(n:Nat)(seq real mono:Int)(boot:Nat→Int)(te:Nat):Mk:=
 let h1:=if n=0 then setN (setN m.h 10 seq) 12 real else m.h
 let h2:=setN h1 8 (h1.N 8+1)
 let h3:=setN (setN (setN h2 9 seq) 13 real) 14 mono
 {m with h:={h3 with I:=fun i=>if 32≤i∧i<48 then boot (i-32)else h3.I i,te:=(te:Int)}}
def Mk.entered (m:Mk)(l:List PR)(real mono:Int)(boot:Nat→Int):Mk:=
 Mk.told (Mk.grown m l real mono boot) (m.h.N 8).toNat (m.h.N 9+1) real mono boot (Mk.dataAll m l).1.b.length
def Mk.acode (m:Mk)(raw:List PR)(real mono:Int)(boot:Nat→Int):Int:=
 if listE raw≠0 then listE raw else if m.h.N 9=18446744073709551615 then 1 else if m.C.most<(Mk.grown m (listL raw) real mono boot).b.length then 15 else 0
def Mk.after (m:Mk)(raw:List PR)(real mono:Int)(boot:Nat→Int):Mk:=if Mk.acode m raw real mono boot=0 then Mk.entered m (listL raw) real mono boot else m
structure Side (E:TypeId)(size:Nat)(w:World)(g:Nat)(p:Pl)(b0:Nat)(A:Option Addr)(n c:Nat)(xs:List Value):Prop where
 own:OwnE E size w b0 A n c xs
 off: ∀k,ownB A=some k→ ¬p.foot g k
theorem Side.path {E:TypeId}{size:Nat}{w w':World}{g:Nat}{p p':Pl}{b0:Nat}{A:Option Addr}{n c:Nat}{xs:List Value}(h:Side E size w g p b0 A n c xs)(k:Path g p w p' w'):Side E size w' g p' b0 A n c xs:=
 ⟨Mf.OwnE.keptF h.own k.kept h.off,fun j hj h2=>(k.foot j h2).elim (h.off j hj) (fun h3=>by have:=(OwnE.ltB h.own j hj).2;omega)⟩
theorem Side.below {E:TypeId}{size:Nat}{w w':World}{g:Nat}{p:Pl}{b0:Nat}{A:Option Addr}{n c:Nat}{xs:List Value}(h:Side E size w g p b0 A n c xs)(hb:Below w.heap.size w w'):Side E size w' g p b0 A n c xs:=
 ⟨h.own.kept hb (yR _),h.off⟩
def Pays (w:World)(g:Nat)(p:Pl)(A:Option Addr)(xs:List Value)(P:List (List Int)):Prop:=
 xs.length=P.length∧ ∀r (h:r<P.length),∃b c,xs[r]? =some (.slice (some ⟨b,0,none⟩) P[r].length c)∧Bytes w (some ⟨b,0,none⟩) P[r]∧b<w.heap.size∧ ¬p.foot g b∧ownB A≠some b
theorem bytes_block {w w':World}{b:Nat}{l:List Int}(h:Bytes w (some ⟨b,0,none⟩) l)(hs:w.heap.size≤w'.heap.size)(hk:w'.heap[b]? =w.heap[b]?):Bytes w' (some ⟨b,0,none⟩) l:=
 ⟨h.1,fun i hi=>by
   obtain⟨b2,off,e,hlt,hc⟩:=h.2 i hi
   injection e with e
   injection e with e1 e2
   subst e1
   exact⟨b,off,by rw[e2],yL hlt hs,(World.cell?_of_block (a:=⟨b,off+i,none⟩) hk).trans hc⟩⟩
theorem Pays.path {w w':World}{g:Nat}{p p':Pl}{A:Option Addr}{xs:List Value}{P:List (List Int)}(h:Pays w g p A xs P)(k:Path g p w p' w'):Pays w' g p' A xs P:=
 ⟨h.1,fun r hr=>by
   obtain⟨b,c,h1,h2,h3,h4,h5⟩:=h.2 r hr
   exact⟨b,c,h1,bytes_block h2 k.kept.size (k.kept.block b h3 h4),yL h3 k.kept.size,fun h6=>(k.foot b h6).elim h4 (fun h7=>by omega),h5⟩⟩
theorem Pays.below {w w':World}{g:Nat}{p:Pl}{A:Option Addr}{xs:List Value}{P:List (List Int)}(h:Pays w g p A xs P)(hb:Below w.heap.size w w'):Pays w' g p A xs P:=
 ⟨h.1,fun r hr=>by
   obtain⟨b,c,h1,h2,h3,h4,h5⟩:=h.2 r hr
   exact⟨b,c,h1,bytes_block h2 hb.size (hb.block b h3),yL h3 hb.size,h4,h5⟩⟩
theorem Pays.push {w w':World}{g:Nat}{p:Pl}{A A':Option Addr}{xs:List Value}{P:List (List Int)}(h:Pays w g p A xs P)(hg:w.grownBy w' (ownB A))(hA:ownB A'=ownB A∨ownB A'=some w.heap.size)(b c:Nat)(l:List Int)(hb:Bytes w (some ⟨b,0,none⟩) l)(hlt:b<w.heap.size)(hp: ¬p.foot g b)(hne:ownB A≠some b):
 Pays w' g p A' (xs++ [.slice (some ⟨b,0,none⟩) l.length c]) (P++ [l]):=by
 have hne': ∀j,j<w.heap.size→ownB A≠some j→ownB A'≠some j:=fun j hj h1 h2=>by
  rcases hA with h3|h3
  ·exact h1 (h3▸h2)
  ·rw[h3]at h2
   injection h2 with h2
   omega
 refine⟨by rw[List.length_append,List.length_append,h.1];rfl,fun r hr=>?_⟩
 rw[List.length_append,List.length_singleton]at hr
 rcases Nat.lt_or_ge r P.length with h1|h1
 ·obtain⟨b2,c2,e1,e2,e3,e4,e5⟩:=h.2 r h1
  refine⟨b2,c2,?_,?_,yL e3 hg.size,e4,hne' b2 e3 e5⟩
  ·rw[List.getElem_append_left h1,List.getElem?_append_left (by rw[h.1];exact h1),e1]
  ·rw[List.getElem_append_left h1]
   exact bytes_block e2 hg.size (hg.block b2 e3 (fun e=>e5 e.symm))
 ·have hr2:r=P.length:=by omega
  subst hr2
  refine⟨b,c,?_,?_,yL hlt hg.size,hp,hne' b hlt hne⟩
  ·rw[List.getElem_append_right (yR _),List.getElem?_append_right (by rw[h.1];exact yR _),h.1]
   simp
  ·rw[List.getElem_append_right (yR _)]
   simp only[Nat.sub_self,List.getElem_singleton]
   exact bytes_block hb hg.size (hg.block b hlt (fun e=>hne e.symm))
theorem arr_and {w:World}{F G:Nat→Prop}{v:Value}{l:List Nat}(h:Arr w F v l)(k:Arr w G v l):Arr w (fun b=>F b∨G b) v l:=by
 obtain⟨A,n,c,e,hl,h⟩:=h
 obtain⟨A2,n2,c2,e2,_,k⟩:=k
 rw[e]at e2
 injection e2 with e3 e4 e5
 subst e3
 refine⟨A,n,c,e,hl,fun i hi=>?_⟩
 obtain⟨b,h1,h2,h3,h4⟩:=h i hi
 obtain⟨b2,k1,_,k3,_⟩:=k i hi
 rw[h1]at k1
 injection k1 with k1
 injection k1 with k1
 subst k1
 exact⟨b,h1,h2,fun h=>h.elim h3 k3,h4⟩
theorem arr_weak {w:World}{F G:Nat→Prop}{v:Value}{l:List Nat}(h:Arr w F v l)(hG: ∀b,b<w.heap.size→ ¬F b→ ¬G b):Arr w G v l:=h.kept (KeptF.refl (fun _=>False) w) (fun _ _ _ h=>h) hG
structure Low (w:World)(b2:Nat)(p:Pl)(m:Mk):Prop where
 da: ∀q∈p.dl,Arr w (fun k=>b2≤k) q.2 q.1.arrays
 ma:Arr w (fun k=>b2≤k) p.M m.main
theorem At.low {w:World}{B g b2:Nat}{p:Pl}{m:Mk}(h:At w B g p m)(hb:w.heap.size≤b2):Low w b2 p m:=
 ⟨fun q hq=>arr_weak (h.da q hq) fun b h1 _ h2=>absurd h1 (by omega),arr_weak h.ma fun b h1 _ h2=>absurd h1 (by omega)⟩
theorem Low.path {w w':World}{B g b2:Nat}{p p':Pl}{m m':Mk}(h:Low w b2 p m)(ha:At w B g p m)(k:Path g p w p' w')(hd: ∀x∈p'.dl,x∈p.dl∨(x.2= .slice none 0 0∧x.1.arrays=[]))(hM:p'.M=p.M)(hm:m'.main=m.main):Low w' b2 p' m':=
 ⟨fun q hq=>(hd q hq).elim (fun h1=>(arr_and (h.da q h1) (ha.da q h1)).kept k.kept (fun b _ h2 h3=>h2 (.inr (.inl h3))) (fun b _ h2 h3=>h2 (.inl h3))) (fun h1=>by rw[h1.1,h1.2];exact Arr.nil _ _),
  by rw[hM,hm];exact(arr_and h.ma ha.ma).kept k.kept (fun b _ h2 h3=>h2 (.inr (.inl h3))) (fun b _ h2 h3=>h2 (.inl h3))⟩
theorem At.offA {w w':World}{B g b2:Nat}{p:Pl}{m:Mk}{G:Nat→Prop}(h:At w B g p m)(hl:Low w b2 p m)(hk:KeptF G w w')(hG: ∀k,G k→b2≤k∧ ¬p.foot g k):At w' B g p m∧Low w' b2 p m:=by
 have off: ∀k,p.foot g k→ ¬G k:=fun k hf hg=>(hG k hg).2 hf
 refine⟨{st:=⟨Kf.Blk.keptF h.st.st hk (off _ (.inl rfl)),Kf.Own.keptF h.st.own hk (fun k hk'=>off k (.inr (.inl (by injection hk' with e;exact e.symm)))),h.st.ne⟩
         dr:=Mf.OwnE.keptF h.dr hk (fun k e=>off k (.inr (.inr (.inl e))))
         fr:=Mf.OwnE.keptF h.fr hk (fun k e=>off k (.inr (.inr (.inr e))))
         dm:=h.dm,fm:=h.fm
         da:=fun q hq=>(arr_and (h.da q hq) (hl.da q hq)).kept hk (fun b _ h1 h2=>h1 (.inr (hG b h2).1)) (fun b _ h1 h2=>h1 (.inl h2))
         ma:=(arr_and h.ma hl.ma).kept hk (fun b _ h1 h2=>h1 (.inr (hG b h2).1)) (fun b _ h1 h2=>h1 (.inl h2))
         dg:=h.dg,fg:=h.fg,df:=h.df,gB:=h.gB,fo:=h.fo},?_⟩
 exact⟨fun q hq=>(hl.da q hq).kept hk (fun b _ h1 h2=>h1 (hG b h2).1) (fun b _ h1 h2=>h1 h2),hl.ma.kept hk (fun b _ h1 h2=>h1 (hG b h2).1) (fun b _ h1 h2=>h1 h2)⟩
theorem Path.side {w2 w w':World}{g:Nat}{p p1:Pl}{G:Nat→Prop}(h:Path g p w2 p1 w)(hk:KeptF G w w')(hG: ∀k,G k→w2.heap.size≤k):Path g p w2 p1 w':=⟨h.foot,h.kept.trans hk fun i hi h2=>absurd (hG i h2) (by omega)⟩
def iv (l:List Nat):List Value:=l.map fun(x:Nat)=> .int .i64 (x:Int)
theorem iv_len (l:List Nat):(iv l).length=l.length:=by simp[iv]
theorem iv_one (l:List Nat): ∀u∈iv l,u.oneCell'=true:=fun u hu=>by
 obtain⟨x,_,rfl⟩:=List.mem_map.1 hu
 rfl
theorem intE:Elt 3 22 1 8 (.int .i64 0):=⟨Tryz.underlying22,by kernel_rfl,rfl,by decide⟩
theorem rowE:Elt 24 194 1 24 (.slice none 0 0):=⟨Tryz.underlying194,by kernel_rfl,rfl,by decide⟩
theorem itemE:Elt 199 193 2 16 (.agg #[.int .u64 0,.int .u64 0]):=⟨Tryz.underlying193,by kernel_rfl,rfl,by decide⟩
theorem step_append_rN {E S:TypeId}{size bytes:Nat}{z:Value}(he:Elt E S size bytes z){w:World}{ops:Array Oper}{o:Oper}{a:Act}{K:Act→World→Prop}{Q:Exit→Act→World→Prop}{F:Prop}(hgd:o.guard=none)(s x:Operand)
 (hop:o.op= .call {callee:= .builtin .append,args:= #[s,x],argTypes:= #[S,S]})
 (base:Nat)(A:Option Addr)(n c:Nat)(xs:List Value)(hs:a.eval s= .slice A n c)(ho:OwnE E size w base A n c xs)(A2:Option Addr)(m c2:Nat)(news:List Value)(hx:a.eval x= .slice A2 m c2)(N:Nat)(hN:n+m=N)(hl:news.length=m*size)
 (hnews: ∀j u,news[j]? =some u→ ∃ad,A2=some ad∧w.cell? (ad.add j)=some u)(h1: ∀u∈news,u.oneCell'=true)(h63:N≤4611686018427387904)(hbytes:N*bytes≤140737488355328)(hml:N≤maxLen)
 (h: ∀A' c' w',OwnE E size w' base A' N c' (xs++news)→w.grownBy w' (ownB A)→(ownB A'=ownB A∨ownB A'=some w.heap.size)→K (a.put o.dst (.slice A' N c')) w'):
 if Region.wanted o (yielded ops a.tmps)=true then Oper.wp Tryz.prog o a w K Q else F:=by
 subst hN
 have hw:Region.wanted o (yielded ops a.tmps)=true:=by simp[Region.wanted,hgd]
 rw[if_pos hw]
 obtain⟨A',c',w',hr,h2,h3,h4⟩:=run_append_row he w o.type base A n c xs ho A2 m c2 news hl hnews h1 h63 hbytes hml
 unfold Oper.wp execOp
 simp only[hop,resolve,invoke,builtin,Sem.run_bind,Sem.run_pure,Result.andThen_ok,List.map_toArray,List.map_cons,List.map_nil,hs,hx,hr]
 exact h A' c' w' h2 h3 h4
theorem ownE_cap {E:TypeId}{size:Nat}{w:World}{base n c:Nat}{A:Option Addr}{xs:List Value}(h:OwnE E size w base A n c xs):n≤c:=by
 rcases h.2.2 with⟨he,h0⟩|⟨g,cap,cur,he,_,_,hnc,_⟩
 ·injection he with e1 e2 e3
  omega
 ·injection he with e1 e2 e3
  omega
theorem ownE_base {E:TypeId}{size:Nat}{w:World}{b b2 n c:Nat}{A:Option Addr}{xs:List Value}(h:OwnE E size w b A n c xs)(hb:b2≤b):OwnE E size w b2 A n c xs:=by
 refine⟨Nat.le_trans hb h.1,h.2.1,?_⟩
 rcases h.2.2 with h1|⟨g,cap,cur,h1,h2,h3,h4⟩
 ·exact .inl h1
 ·exact .inr ⟨g,cap,cur,h1,Nat.le_trans hb h2,h3,h4⟩
theorem intI:(Tryz.prog.info? 3).map (fun i=>(i.zero,i.size,i.bytes))=some (some (.int .i64 0),1,8):=by kernel_rfl
theorem sizeofI (w:World):(sizeOf 3).run Tryz.prog w= .ok 1 w:=by
 obtain⟨i,hi,hzz⟩:=Option.map_eq_some_iff.1 intI
 simp only[Prod.mk.injEq]at hzz
 simp[sizeOf,typeInfo,hi,hzz]
theorem elemI:Tryz.prog.elem 22=3:=by kernel_rfl
theorem icut_h (A:Option Addr)(len cap hi:Nat)(h2:hi≤cap)(w:World):
 (Instr.slice 22 (.slice A len cap) none (some (.int .i64 hi)) none).run Tryz.prog w= .ok (.slice A hi cap) w:=by
 rw[run_slice_h w _ A len cap (by rw[elemI];exact Tryz.underlying22) .i64 hi (by omega) (by omega),elemI,sizeofI]
 cases A with
 |none=>simp[Result.andThen,sliced]
 |some a=>simp[Result.andThen,sliced,Addr.add]
theorem icut_l (A:Option Addr)(len cap lo:Nat)(h1:lo≤len)(w:World):
 (Instr.slice 22 (.slice A len cap) (some (.int .i64 lo)) none none).run Tryz.prog w= .ok (.slice (cutA A cap lo) (len-lo) (cap-lo)) w:=
 sliced_low _ A len cap lo w (by rw[elemI];exact sizeofI w) (by rw[elemI];exact Tryz.underlying22) h1
theorem take_news {w:World}{base n c a:Nat}{A:Option Addr}{l:List Nat}(h:OwnE 3 1 w base A n c (iv l))(ha:a≤n):(iv (l.take a)).length=a*1∧ ∀j u,(iv (l.take a))[j]? =some u→ ∃ad,A=some ad∧w.cell? (ad.add j)=some u:=by
 obtain⟨h1,h2⟩:=own_news h
 rw[iv_len]at h1
 refine⟨by rw[iv_len,List.length_take];omega,fun j u hj=>h2 j u ?_⟩
 unfold iv at hj⊢
 rw[List.getElem?_map]at hj⊢
 obtain⟨x,hx,rfl⟩:=Option.map_eq_some_iff.1 hj
 rw[List.getElem?_take]at hx
 split at hx
 ·rw[hx];rfl
 ·cases hx
theorem drop_news {w:World}{base n c a:Nat}{A:Option Addr}{l:List Nat}(h:OwnE 3 1 w base A n c (iv l))(ha:a≤n):(iv (l.drop a)).length=(n-a)*1∧ ∀j u,(iv (l.drop a))[j]? =some u→ ∃ad,cutA A c a=some ad∧w.cell? (ad.add j)=some u:=by
 obtain⟨h1,h2⟩:=own_news h
 rw[iv_len]at h1
 refine⟨by rw[iv_len,List.length_drop];omega,fun j u hj=>?_⟩
 have hlt:j<(l.drop a).length:=by
  have:=(List.getElem?_eq_some_iff.1 hj).1
  rw[iv_len]at this
  exact this
 rw[List.length_drop]at hlt
 have hcap:=ownE_cap h
 have hj2:(iv l)[a+j]? =some u:=by
  rw[←hj]
  unfold iv
  rw[List.getElem?_map,List.getElem?_map,List.getElem?_drop]
 obtain⟨b,rfl,_,_,hc⟩:=OwnE.cell h (List.getElem?_eq_some_iff.1 hj2).1
 refine⟨⟨b,a,none⟩,?_,?_⟩
 ·rw[cutA_some,if_neg (by omega),Nat.zero_add]
 ·rw[add_none,hc,hj2]
theorem empty_int (w:World)(base:Nat)(h:base≤w.heap.size):OwnE 3 1 (w.alloc (.cells #[] 3)) base (some ⟨w.heap.size,0,none⟩) 0 0 []:=
 ⟨Nat.le_trans h (by simp),World.ownsRow_lit w #[] 0 h (by decide) rfl⟩
theorem own_int {w:World}{base n c:Nat}{A:Option Addr}{l:List Nat}(h:OwnE 3 1 w base A n c (iv l))(i:Nat)(hi:i<l.length): ∃b,A=some ⟨b,0,none⟩∧w.cell? ⟨b,i,none⟩=some (.int .i64 ((l.getD i 0:Nat):Int)):=by
 obtain⟨b,e,h1,h2,h3⟩:=h.cell (i:=i) (by rw[iv_len];exact hi)
 refine⟨b,e,h3.trans ?_⟩
 simp[iv,List.getD_eq_getElem?_getD,List.getElem?_eq_getElem hi]
def itv (f h:Nat→Int)(n:Nat):List Value:=(List.range n).flatMap fun i=>[.int .u64 (f i),.int .u64 (h i)]
theorem itv_succ (f h:Nat→Int)(n:Nat):itv f h (n+1)=itv f h n++ [.int .u64 (f n),.int .u64 (h n)]:=by simp[itv,List.range_succ,List.flatMap_append]
theorem itv_len (f h:Nat→Int)(n:Nat):(itv f h n).length=n*2:=by
 induction n with
 |zero=>rfl
 |succ n ih=>rw[itv_succ,List.length_append,ih];simp;omega
theorem itv_at (f h:Nat→Int)(n i:Nat)(hi:i<n):(itv f h n)[i*2]? =some (.int .u64 (f i))∧(itv f h n)[i*2+1]? =some (.int .u64 (h i)):=by
 induction n with
 |zero=>omega
 |succ n ih=>
  rw[itv_succ]
  rcases Nat.lt_or_ge i n with h1|h1
  ·rw[List.getElem?_append_left (by rw[itv_len];omega),List.getElem?_append_left (by rw[itv_len];omega)]
   exact ih h1
  ·obtain rfl:i=n:=by omega
   rw[List.getElem?_append_right (by rw[itv_len];omega),List.getElem?_append_right (by rw[itv_len];omega),itv_len]
   rw[Nat.sub_self,show i*2+1-i*2=1 by omega]
   exact⟨rfl,rfl⟩
theorem own_in2 {w:World}{base n c:Nat}{A:Option Addr}{f h:Nat→Int}(ho:OwnE 199 2 w base A n c (itv f h n))(hf: ∀i,i<n→0≤f i∧f i≤18446744073709551615)(hh: ∀i,i<n→0≤h i∧h i≤18446744073709551615):In2 w A n f h:=fun i hi=>by
 obtain⟨e1,e2⟩:=itv_at f h n i hi
 obtain⟨b,rfl,_,hb,h0⟩:=OwnE.cell ho (i:=i*2) (by rw[itv_len];omega)
 obtain⟨b2,e3,_,_,h1⟩:=OwnE.cell ho (i:=i*2+1) (by rw[itv_len];omega)
 injection e3 with e3
 injection e3 with e3
 subst e3
 exact⟨b,0,rfl,hb,by rw[Nat.zero_add,h0,e1],by rw[Nat.zero_add,h1,e2],hf i hi,hh i hi⟩
attribute [local irreducible] Mk.cells wpList Code.wp
theorem rxor_any (b0 n cap g:Nat)(p:Pl)(A:Option Addr)(xs:List Value)(P:List (List Int))(w:World)(ho:OwnE 24 1 w b0 A n cap xs)(h:Pays w g p A xs P)(hn:n≤1000000)(hL: ∀l∈P,l.length≤800000):
 Calls Tryz.prog 102 #[.slice A n cap] w fun e w'=>e= .returned (.int .u64 ((xr P:Nat):Int))∧w=w':=by
 have hPn:P.length=n:=by have:=ho.len;rw[h.1,Nat.mul_one]at this;exact this
 obtain⟨Pf,hPf⟩: ∃f:Nat→List Int,∀i,f i=P.getD i []:=⟨_,fun i=>rfl⟩
 have HP:rowsL Pf n=P:=by
  apply List.ext_getElem
  ·simp[rowsL,hPn]
  ·intro i h1 h2;simp[rowsL,hPf,List.getD_eq_getElem?_getD,List.getElem?_eq_getElem h2]
 have HO:=yH ho
 have HR:=yH h
 have HN:=yH hPn
 have HP:=yH HP
 clear h ho hPn
 go_enter Tryz.func102,Tryz.ntmps102
 go_wp2
 go_loopw [3,4] (fun s i wr=> ∃k:Nat,k≤n∧i= .int .i64 (k:Int)∧s= .int .u64 ((xr (rowsL Pf k):Nat):Int)∧wr=w) (fun _ i _=>n-(intOf i).toNat)
 case atStart=>exact⟨0,Nat.zero_le _,rfl,rfl,rfl⟩
 case round=>
  obtain⟨k,hk,rfl,rfl,rfl⟩:=hrel
  by_cases hlt:k<n
  ·obtain⟨b,c,e1,e2,e3,e4,e5⟩:=HR.out.2 k (by rw[HN.out];exact hlt)
   obtain⟨b2,rfl,_,_,hc⟩:=HO.out.cell (i:=k) (by rw[HR.out.1,HN.out];exact hlt)
   rw[e1]at hc
   have hgd:P[k]'(by rw[HN.out];exact hlt)=Pf k:=by rw[hPf,List.getD_eq_getElem?_getD,List.getElem?_eq_getElem (by rw[HN.out];exact hlt)];rfl
   have hLk:=hL _ (List.getElem_mem (by rw[HN.out];exact hlt:k<P.length))
   rw[hgd]at hc e2 hLk
   have HLook:=yH (rlook_all (some ⟨b,0,none⟩) (Pf k) _ c wr e2 rfl hLk)
   have HX:=yH (xr_bits Pf k)
   clear e1 e2 hgd
   generalize Pf k=q at*
   go_wp2_with(first|(go_at_call 152;(with_reducible refine HLook.out.mono ?_);rintro e w2 ⟨rfl,rfl⟩)|fail)
   go_roundw
   case rel=>exact⟨k+1,by omega,by go_num,by rw[HX.out],trivial⟩
   case measure=>simp[intOf];omega
  ·obtain rfl:k=n:=by omega
   go_wp2
   go_ret
   refine⟨?_,rfl⟩
   rw[HP.out]
   rfl
end Nh
namespace Nk
open Bytes8 Blk8 Own8 OwnE Ga Ma Kf Mb Mc Md Mf Mg Fb Dc Na Nc Nd Nh
theorem at_head (m m':Mk)(S:Sl)(j:Nat)(hC:m.C=m'.C)(hd:m.depth=m'.depth)(h:52≤j→j<142→m'.h.at_ 20 (j-52)=m.h.at_ 20 (j-52)):Mk.at_ m' S j=Mk.at_ m S j:=by
 unfold Mk.at_
 by_cases h1:j<142
 ·rw[if_pos h1,if_pos h1]
  by_cases h2:j<52
  ·rw[if_pos h2,if_pos h2,hC]
  ·rw[if_neg h2,if_neg h2,h (by omega) h1]
 ·rw[if_neg h1,if_neg h1,hd]
theorem set_ta (m:Mk)(S:Sl)(v:Int):(Mk.cells m S).set 139 (.int .u32 v)=Mk.cells {m with h:={m.h with ta:=v}} S:=
 set_map _ _ _ _ _ rfl fun j hj=>at_head _ _ _ _ rfl rfl fun h1 h2=>by
  unfold HD.at_
  repeat' split
  all_goals first|rfl|(exfalso;omega)
theorem set_ti (m:Mk)(S:Sl)(v:Int):(Mk.cells m S).set 140 (.int .u32 v)=Mk.cells {m with h:={m.h with ti:=v}} S:=
 set_map _ _ _ _ _ rfl fun j hj=>at_head _ _ _ _ rfl rfl fun h1 h2=>by
  unfold HD.at_
  repeat' split
  all_goals first|rfl|(exfalso;omega)
theorem set_te (m:Mk)(S:Sl)(v:Int):(Mk.cells m S).set 141 (.int .u64 v)=Mk.cells {m with h:={m.h with te:=v}} S:=
 set_map _ _ _ _ _ rfl fun j hj=>at_head _ _ _ _ rfl rfl fun h1 h2=>by
  unfold HD.at_
  repeat' split
  all_goals first|rfl|(exfalso;omega)
theorem get_ta (m:Mk)(S:Sl):(Mk.cells m S)[139]? =some (.int .u32 m.h.ta):=by rw[Mk.get m S _ (by decide)];rfl
theorem get_ti (m:Mk)(S:Sl):(Mk.cells m S)[140]? =some (.int .u32 m.h.ti):=by rw[Mk.get m S _ (by decide)];rfl
theorem get_te (m:Mk)(S:Sl):(Mk.cells m S)[141]? =some (.int .u64 m.h.te):=by rw[Mk.get m S _ (by decide)];rfl
variable {w w' : World} {B g : Nat} {p p' : Pl} {m m' : Mk}
theorem At.cta (h:At w B g p m):w.cell? ⟨g,139,none⟩=some (.int .u32 m.h.ta):=h.st.st.cell (get_ta _ _)
theorem At.cti (h:At w B g p m):w.cell? ⟨g,140,none⟩=some (.int .u32 m.h.ti):=h.st.st.cell (get_ti _ _)
theorem At.cte (h:At w B g p m):w.cell? ⟨g,141,none⟩=some (.int .u64 m.h.te):=h.st.st.cell (get_te _ _)
theorem At.head1 (h:At w B g p m)(i:Nat)(v:Value)(hd:HD)(e: ∀S,(Mk.cells m S).set i v=Mk.cells {m with h:=hd} S):At (w.setCell ⟨g,i,none⟩ v) B g p {m with h:=hd}:=
 Nd.At.struct (S':=0) (v:= .bool true) h i v ⟨by have:=h.st.st.set_ i v;rw[e]at this;exact this,own_set1 h.st.own h.st.ne _ _,h.st.ne⟩ rfl rfl rfl
theorem At.setTa (h:At w B g p m)(v:Int):At (w.setCell ⟨g,139,none⟩ (.int .u32 v)) B g p {m with h:={m.h with ta:=v}}:=At.head1 h _ _ _ fun S=>set_ta m S v
theorem At.setTi (h:At w B g p m)(v:Int):At (w.setCell ⟨g,140,none⟩ (.int .u32 v)) B g p {m with h:={m.h with ti:=v}}:=At.head1 h _ _ _ fun S=>set_ti m S v
theorem At.setTe (h:At w B g p m)(v:Int):At (w.setCell ⟨g,141,none⟩ (.int .u64 v)) B g p {m with h:={m.h with te:=v}}:=At.head1 h _ _ _ fun S=>set_te m S v
theorem At.setM (h:At w B g p m)(v:Value)(l:List Nat)(hv:Arr w (p.away B g) v l):At (w.setCell ⟨g,146,none⟩ v) B g {p with M:=v} {m with main:=l}∧Path g p w {p with M:=v} (w.setCell ⟨g,146,none⟩ v):=by
 have hk:=(KeptF.refl (p.foot g) w).setCell (p:=⟨g,146,none⟩) (fun _=>Or.inl rfl) v
 refine⟨h.turn (p':={p with M:=v}) hk (fun _ h=> .inl h) ?_ (Mf.OwnE.keptF h.dr (KeptF.set1 w g 146 v) fun j hj e=>(h.dg j hj).1 e) (Mf.OwnE.keptF h.fr (KeptF.set1 w g 146 v) fun j hj e=>(h.fg j hj).1 e) h.dm h.fm (fun q hq=> .inl hq) (.inr (hv.kept hk (fun _ _ h h2=>h (.inl h2)) fun _ _ h=>h)) h.dg h.fg h.df (fun q hq=> .inl hq),⟨fun _ h=> .inl h,hk⟩⟩
 have:=h.st.st.set_ 146 v
 rw[Mk.set_m]at this
 exact MkB.same (m:=m) (m':={m with main:=l}) (S:={p.S with m:=v}) ⟨this,own_set1 h.st.own h.st.ne _ _,h.st.ne⟩ rfl rfl rfl rfl
end Nk
namespace Nl
open Bytes8 Ga Ma Mb Mc Mf Mg Na Nb Nc Nh
def Mk.bump (m:Mk):Mk:={m with h:=setN m.h 8 (m.h.N 8+1)}
theorem inv_head {m m':Mk}(h:Inv m)(hC:m'.C=m.C)(hb:m'.b=m.b)(hd:m'.datas=m.datas)(hf:m'.fields=m.fields)(hm:m'.main=m.main)(hdp:m'.depth=m.depth)
 (hN: ∀i,i=2∨i=4∨i=7∨i=8∨i=15∨i=16∨i=18∨i=19→m'.h.N i=m.h.N i):Inv m':=
 {F:=by rw[hC];exact h.F
  ds:=by rw[hC];exact h.ds
  fs:=by rw[hC];exact h.fs
  n2:=by rw[hN 2 (by simp)];exact h.n2
  n4:=by rw[hN 4 (by simp),show Mk.tf m'=Mk.tf m by unfold Mk.tf;rw[hC]];exact h.n4
  len:=by rw[hC,hb];exact h.len
  l8:=by rw[hb];exact h.l8
  dat:=by rw[hd,hb];exact h.dat
  fld:=by rw[hf,hb];exact h.fld
  mn:=by rw[hN 8 (by simp),hm,hb];exact h.mn
  n7:=by rw[hN 7 (by simp),hb];exact h.n7
  n15:=by rw[hN 15 (by simp),hb];exact h.n15
  n16:=by rw[hN 16 (by simp),hb];exact h.n16
  n18:=by rw[hN 18 (by simp),hb];exact h.n18
  n19:=by rw[hN 19 (by simp),hb];exact h.n19
  dep:=by rw[hdp,hb];exact h.dep
  dn:=by rw[hd,hb];exact h.dn
  fn:=by rw[hf,hb];exact h.fn}
theorem inv_main {m m':Mk}(h:Inv m)(hC:m'.C=m.C)(hb:m'.b=m.b)(hd:m'.datas=m.datas)(hf:m'.fields=m.fields)(hdp:m'.depth=m.depth)
 (hN: ∀i,i=2∨i=4∨i=7∨i=15∨i=16∨i=18∨i=19→m'.h.N i=m.h.N i)(hm: ∃n:Nat,m'.h.N 8=(n:Int)∧Chain m.b.length m'.main n∧n≤m.b.length):Inv m':=
 {F:=by rw[hC];exact h.F
  ds:=by rw[hC];exact h.ds
  fs:=by rw[hC];exact h.fs
  n2:=by rw[hN 2 (by simp)];exact h.n2
  n4:=by rw[hN 4 (by simp),show Mk.tf m'=Mk.tf m by unfold Mk.tf;rw[hC]];exact h.n4
  len:=by rw[hC,hb];exact h.len
  l8:=by rw[hb];exact h.l8
  dat:=by rw[hd,hb];exact h.dat
  fld:=by rw[hf,hb];exact h.fld
  mn:=by rw[hb];exact hm
  n7:=by rw[hN 7 (by simp),hb];exact h.n7
  n15:=by rw[hN 15 (by simp),hb];exact h.n15
  n16:=by rw[hN 16 (by simp),hb];exact h.n16
  n18:=by rw[hN 18 (by simp),hb];exact h.n18
  n19:=by rw[hN 19 (by simp),hb];exact h.n19
  dep:=by rw[hdp,hb];exact h.dep
  dn:=by rw[hd,hb];exact h.dn
  fn:=by rw[hf,hb];exact h.fn}
theorem setN_comm (h:HD)(i j:Nat)(v u:Int)(e:i≠j):setN (setN h i v) j u=setN (setN h j u) i v:=by
 unfold setN
 congr 1
 funext k
 by_cases h1:k=j
 ·by_cases h2:k=i
  ·exact absurd (h2.symm.trans h1) e
  ·simp[h1,h2]
   intro h3
   exact absurd h3.symm e
 ·by_cases h2:k=i
  ·simp[h1,h2]
   intro h3
   exact absurd h3 e
  ·simp[h1,h2]
theorem object_bump (m:Mk)(l:List Int):(Mk.bump m).object l=Mk.bump (m.object l):=by
 unfold Mk.bump Mk.object
 dsimp only
 rw[setN_comm _ 8 6 _ _ (by decide),setN_comm _ 8 7 _ _ (by decide)]
 rfl
theorem link_bump (m:Mk)(arr:List Nat)(n fr item:Nat):Mk.link (Mk.bump m) arr n fr item=(Mk.bump (Mk.link m arr n fr item).1,(Mk.link m arr n fr item).2):=by
 unfold Mk.link
 by_cases e:n=rooms arr.length
 ·simp only[if_pos e]
  unfold Mk.linkNew
  rw[object_bump]
  unfold Mk.bump
  dsimp only
  rw[setN_comm _ 8 18 _ _ (by decide)]
  rfl
 ·simp only[if_neg e]
  rfl
theorem inv_linked {m:Mk}(h:Inv m)(item n:Nat)(hn:m.h.N 8=(n:Int))(hc:Chain m.b.length m.main n)(hl:n+1≤m.b.length)(h176:184≤m.b.length):
 Inv (Mk.bump (Mk.linked m item n))∧m.b.length≤(Mk.linked m item n).b.length∧(Mk.linked m item n).b.length≤m.b.length+2100∧(Mk.linked m item n).datas=m.datas∧(Mk.linked m item n).C=m.C∧(Mk.linked m item n).h.N 9=m.h.N 9∧(Mk.linked m item n).h.N 8=m.h.N 8:=by
 obtain⟨k1,k2,k3,k4,k5,k6,k7,k8,k9,k10,k11,k12⟩:=inv_link h (fr:=176) item hc (by omega)
 refine⟨?_,k3,k4,k5,k8,?_,?_⟩
 ·refine inv_main k1 rfl rfl rfl rfl rfl ?_ ⟨n+1,?_,k2,by omega⟩
  ·rintro i (rfl|rfl|rfl|rfl|rfl|rfl|rfl)<;>rfl
  ·show(Mk.link m m.main n 176 item).1.h.N 8+1=_
   rw[k10 8 (by decide) (by decide) (by decide),hn]
   rfl
 ·show(Mk.link m m.main n 176 item).1.h.N 9=_
  exact k10 9 (by decide) (by decide) (by decide)
 ·show(Mk.link m m.main n 176 item).1.h.N 8=_
  exact k10 8 (by decide) (by decide) (by decide)
structure InvM (L0 i:Nat)(m:Mk):Prop where
 inv:Inv (Mk.bump m)
 cnt: ∀k∈m.datas,k.count≤L0+i
 len:L0+64≤m.b.length
theorem inv_data {m m':Mk}(h:Inv m)(hC:m'.C=m.C)(hL:m'.b.length=m.b.length)(hf:m'.fields=m.fields)(hm:m'.main=m.main)(hh:m'.h=m.h)(hdp:m'.depth=m.depth)(hdl:m'.datas.length=m.datas.length)
 (hd: ∀k∈m'.datas,k.at_+64≤m.b.length∧AllB k.text∧k.text.length≤400∧Chain m.b.length k.arrays (k.count-1)∧k.count≤m.b.length):Inv m':=
 {F:=by rw[hC];exact h.F
  ds:=by rw[hC];exact h.ds
  fs:=by rw[hC];exact h.fs
  n2:=by rw[hh];exact h.n2
  n4:=by rw[hh,show Mk.tf m'=Mk.tf m by unfold Mk.tf;rw[hC]];exact h.n4
  len:=by rw[hC,hL];exact h.len
  l8:=by rw[hL];exact h.l8
  dat:=by rw[hL];exact hd
  fld:=by rw[hf,hL];exact h.fld
  mn:=by rw[hh,hm,hL];exact h.mn
  n7:=by rw[hh,hL];exact h.n7
  n15:=by rw[hh,hL];exact h.n15
  n16:=by rw[hh,hL];exact h.n16
  n18:=by rw[hh,hL];exact h.n18
  n19:=by rw[hh,hL];exact h.n19
  dep:=by rw[hdp,hL];exact h.dep
  dn:=by rw[hdl,hL];exact h.dn
  fn:=by rw[hf,hL];exact h.fn}
def Mk.hitched (e:Nat)(m:Mk)(j:Nat):Mk×List Nat:=
 if(Mk.kn m j).count=0 then({m with b:=put8 m.b ((Mk.kn m j).at_+40) e},(Mk.kn m j).arrays)
 else((Mk.link m (Mk.kn m j).arrays ((Mk.kn m j).count-1) ((Mk.kn m j).at_+48) e).1,(Mk.link m (Mk.kn m j).arrays ((Mk.kn m j).count-1) ((Mk.kn m j).at_+48) e).2.1)
theorem mark_is (e:Nat)(m:Mk)(j:Nat):Mk.mark e m j={(Mk.hitched e m j).1 with b:=put8 (Mk.hitched e m j).1.b ((Mk.kn m j).at_+56) (((Mk.kn m j).count+1:Nat):Int),datas:=(Mk.hitched e m j).1.datas.set j {Mk.kn m j with count:=(Mk.kn m j).count+1,arrays:=(Mk.hitched e m j).2}}:=rfl
theorem kn_mem {m:Mk}{j:Nat}(hj:j<m.datas.length):Mk.kn m j∈m.datas:=by
 unfold Mk.kn
 rw[List.getD_eq_getElem?_getD,List.getElem?_eq_getElem hj]
 exact List.getElem_mem hj
theorem inv_hitched {L0 i:Nat}{m:Mk}(h:InvM L0 i m)(e j:Nat)(hj:j<m.datas.length):
 Inv (Mk.bump (Mk.hitched e m j).1)∧Chain (Mk.hitched e m j).1.b.length (Mk.hitched e m j).2 (Mk.kn m j).count∧m.b.length≤(Mk.hitched e m j).1.b.length∧(Mk.hitched e m j).1.b.length≤m.b.length+2100∧
 (Mk.hitched e m j).1.datas=m.datas∧(Mk.hitched e m j).1.C=m.C∧(Mk.hitched e m j).1.h.N 9=m.h.N 9∧(Mk.hitched e m j).1.h.N 8=m.h.N 8:=by
 obtain⟨d1,d2,d3,d4,d5⟩:=h.inv.dat _ (show Mk.kn m j∈(Mk.bump m).datas from kn_mem hj)
 have d1:(Mk.kn m j).at_+64≤m.b.length:=d1
 have d4:Chain m.b.length (Mk.kn m j).arrays ((Mk.kn m j).count-1):=d4
 unfold Mk.hitched
 by_cases h0:(Mk.kn m j).count=0
 ·rw[if_pos h0]
  have hl:(put8 m.b ((Mk.kn m j).at_+40) (e:Int)).length=m.b.length:=put8_len _ _ _ (by omega)
  refine⟨inv_bytes h.inv hl,?_,by show _≤(put8 _ _ _).length;omega,by show(put8 _ _ _).length≤_;omega,rfl,rfl,rfl,rfl⟩
  show Chain (put8 _ _ _).length _ _
  rw[hl,h0]
  rw[h0]at d4
  exact d4
 ·rw[if_neg h0]
  obtain⟨k1,k2,k3,k4,k5,k6,k7,k8,k9,k10,k11,k12⟩:=inv_link h.inv (fr:=(Mk.kn m j).at_+48) e (show Chain (Mk.bump m).b.length _ _ from d4) (show _≤m.b.length by omega)
  rw[link_bump]at k1 k2 k3 k4 k5 k6 k7 k8 k9 k10 k11 k12
  dsimp only at k1 k2 k3 k4 k5 k6 k7 k8 k9 k10 k11 k12
  refine⟨k1,?_,k3,k4,k5,k8,?_,?_⟩
  ·rw[show(Mk.kn m j).count=(Mk.kn m j).count-1+1 by omega]
   exact k2
  ·exact k10 9 (by decide) (by decide) (by decide)
  ·have h8:=k10 8 (by decide) (by decide) (by decide)
   have e1:(Mk.link m (Mk.kn m j).arrays ((Mk.kn m j).count-1) ((Mk.kn m j).at_+48) e).1.h.N 8+1=m.h.N 8+1:=h8
   show(Mk.link m (Mk.kn m j).arrays ((Mk.kn m j).count-1) ((Mk.kn m j).at_+48) e).1.h.N 8=m.h.N 8
   omega
theorem inv_mark {L0 i:Nat}{m:Mk}(h:InvM L0 i m)(e j:Nat)(hj:j<m.datas.length)(hi:i<16):
 InvM L0 (i+1) (Mk.mark e m j)∧m.b.length≤(Mk.mark e m j).b.length∧(Mk.mark e m j).b.length≤m.b.length+2100∧(Mk.mark e m j).datas.length=m.datas.length∧(Mk.mark e m j).C=m.C∧(Mk.mark e m j).h.N 9=m.h.N 9∧(Mk.mark e m j).h.N 8=m.h.N 8:=by
 obtain⟨k1,k2,k3,k4,k5,k6,k7,k8⟩:=inv_hitched h e j hj
 obtain⟨d1,d2,d3,d4,d5⟩:=h.inv.dat _ (show Mk.kn m j∈(Mk.bump m).datas from kn_mem hj)
 have d1:(Mk.kn m j).at_+64≤m.b.length:=d1
 have hc:=h.cnt _ (kn_mem hj)
 have hlen:=h.len
 rw[mark_is]
 have hl:(put8 (Mk.hitched e m j).1.b ((Mk.kn m j).at_+56) (((Mk.kn m j).count+1:Nat):Int)).length=(Mk.hitched e m j).1.b.length:=put8_len _ _ _ (by omega)
 have hdl:((Mk.hitched e m j).1.datas.set j {Mk.kn m j with count:=(Mk.kn m j).count+1,arrays:=(Mk.hitched e m j).2}).length=m.datas.length:=by rw[List.length_set,k5]
 refine⟨⟨?_,?_,?_⟩,?_,?_,hdl,k6,k7,k8⟩
 ·refine inv_data k1 rfl hl rfl rfl rfl rfl (hdl.trans (congrArg List.length k5).symm) ?_
  intro k hk
  rcases List.mem_or_eq_of_mem_set (show k∈(Mk.hitched e m j).1.datas.set j _ from hk)with hk|hk
  ·exact k1.dat k hk
  ·rw[hk]
   exact⟨show(Mk.kn m j).at_+64≤(Mk.hitched e m j).1.b.length by omega,d2,d3,k2,show(Mk.kn m j).count+1≤(Mk.hitched e m j).1.b.length by omega⟩
 ·intro k hk
  rcases List.mem_or_eq_of_mem_set (show k∈(Mk.hitched e m j).1.datas.set j _ from hk)with hk|hk
  ·rw[k5]at hk
   have:=h.cnt k hk
   omega
  ·rw[hk]
   show(Mk.kn m j).count+1≤_
   omega
 ·show _≤(put8 _ _ _).length
  omega
 ·show _≤(put8 _ _ _).length
  omega
 ·show(put8 _ _ _).length≤_
  omega
theorem inv_markAll {L0:Nat}{m:Mk}(h:InvM L0 0 m)(e:Nat)(who:List Nat)(hw: ∀x∈who,x<m.datas.length)(h16:who.length≤16): ∀i,i≤who.length→
 InvM L0 i (Mk.markAll e m (who.take i))∧m.b.length≤(Mk.markAll e m (who.take i)).b.length∧(Mk.markAll e m (who.take i)).b.length≤m.b.length+2100*i∧(Mk.markAll e m (who.take i)).datas.length=m.datas.length∧(Mk.markAll e m (who.take i)).C=m.C∧(Mk.markAll e m (who.take i)).h.N 9=m.h.N 9∧(Mk.markAll e m (who.take i)).h.N 8=m.h.N 8
 |0,_=>by
  rw[show Mk.markAll e m (who.take 0)=m by rw[List.take_zero];rfl]
  refine⟨h,yR _,?_,rfl,rfl,rfl,rfl⟩
  exact Nat.le_add_right _ _
 |i+1,hi=>by
  obtain⟨h1,h2,h3,h4,h5,h6,h7⟩:=inv_markAll h e who hw h16 i (by omega)
  rw[markAll_step e m who i (by omega)]
  obtain⟨k1,k2,k3,k4,k5,k6,k7⟩:=inv_mark h1 e who[i] (by rw[h4];exact hw _ (List.getElem_mem _)) (by omega)
  exact⟨k1,Nat.le_trans h2 k2,by omega,k4.trans h4,k5.trans h5,k6.trans h6,k7.trans h7⟩
theorem inv_told {m:Mk}(h:Inv (Mk.bump m))(n:Nat)(seq real mono:Int)(boot:Nat→Int)(te:Nat):Inv (Mk.told m n seq real mono boot te):=by
 refine inv_head h rfl rfl rfl rfl rfl rfl ?_
 unfold Mk.told Mk.bump
 dsimp only
 by_cases h0:n=0
 ·rw[if_pos h0]
  rintro i (rfl|rfl|rfl|rfl|rfl|rfl|rfl|rfl)<;>rfl
 ·rw[if_neg h0]
  rintro i (rfl|rfl|rfl|rfl|rfl|rfl|rfl|rfl)<;>rfl
end Nl
namespace Nm
open Bytes8 Blk8 Own8 OwnA OwnE Od Ga Ma Kf Mb Mc Md Mf Mg Fa Fb Dc Na Nc Nd Nh Nk
theorem arr_text {w:World}{F:Nat→Prop}{v:Value}{l:List Nat}(h:Arr w F v l){K:Nat}{s:ByteArray}{r:List Value}{T0:TypeId}(hK:Blk w K (.string s::r) T0):Arr w (fun b=>F b∨b=K) v l:=by
 obtain⟨A,n,c,e,hl,h⟩:=h
 refine⟨A,n,c,e,hl,fun i hi=>?_⟩
 obtain⟨b,h1,h2,h3,h4⟩:=h i hi
 refine⟨b,h1,h2,fun h5=>h5.elim h3 fun h6=>?_,h4⟩
 subst h6
 obtain⟨b2,k1,_,_,k4⟩:=h 0 (by omega)
 rw[h1]at k1
 injection k1 with k1
 injection k1 with k1
 subst k1
 rw[hK.cell (i:=0) rfl]at k4
 cases k4
theorem kf_set: ∀(l:List (Kn×Value)) (x:Nat),x<l.length→ ∀(k:Kn) (v:Value),kf (l.set x (k,v))=(((((kf l).set (x*5) (.string (T k.text))).set (x*5+1) (.int .u64 (k.at_:Int))).set (x*5+2) (.int .i64 (k.slot:Int))).set (x*5+3) (.int .i64 (k.count:Int))).set (x*5+4) v
 | [],x,h,_,_=>absurd h (Nat.not_lt_zero _)
 |p::l,0,_,k,v=>by
  have e: ∀(q:Kn×Value) (r:List (Kn×Value)),kf (q::r)=knC q.1 q.2++kf r:=fun q r=>by simp[kf]
  rw[List.set_cons_zero,e,e]
  rfl
 |p::l,x+1,h,k,v=>by
  have e: ∀(q:Kn×Value) (r:List (Kn×Value)),kf (q::r)=knC q.1 q.2++kf r:=fun q r=>by simp[kf]
  rw[List.set_cons_succ,e,e,kf_set l x (by simpa using h) k v]
  have e5:(x+1)*5=x*5+5:=by omega
  rw[e5,show x*5+5+1=x*5+1+5 by omega,show x*5+5+2=x*5+2+5 by omega,show x*5+5+3=x*5+3+5 by omega,show x*5+5+4=x*5+4+5 by omega]
  rfl
theorem ownE_set {E:TypeId}{size:Nat}{w:World}{base n c g:Nat}{xs:List Value}(h:OwnE E size w base (some ⟨g,0,none⟩) n c xs)(j:Nat)(u:Value):OwnE E size (w.setCell ⟨g,j,none⟩ u) base (some ⟨g,0,none⟩) n c (xs.set j u):=
 ⟨by simpa using h.1,(h.2.stored j u).1⟩
variable {w w' : World} {B g : Nat} {p p' : Pl} {m m' : Mk}
theorem At.setK (h:At w B g p m){K:Nat}{s:ByteArray}{r:List Value}{T0:TypeId}(hK:Blk w K (.string s::r) T0)(hf: ¬p.foot g K)(i:Nat)(v:Value):At (w.setCell ⟨K,i,none⟩ v) B g p m:=by
 have hk:=KeptF.set1 w K i v
 have off: ∀k,p.foot g k→ ¬One K k:=fun k h1 h2=>hf ((show k=K from h2)▸h1)
 exact
  {st:=⟨Kf.Blk.keptF h.st.st hk (off _ (.inl rfl)),Kf.Own.keptF h.st.own hk (fun k hk'=>off k (.inr (.inl (by injection hk' with e;exact e.symm)))),h.st.ne⟩
   dr:=Mf.OwnE.keptF h.dr hk (fun k e=>off k (.inr (.inr (.inl e))))
   fr:=Mf.OwnE.keptF h.fr hk (fun k e=>off k (.inr (.inr (.inr e))))
   dm:=h.dm,fm:=h.fm
   da:=fun q hq=>(arr_text (h.da q hq) hK).kept hk (fun b _ h1 h2=>h1 (.inr h2)) (fun b _ h1 h2=>h1 (.inl h2))
   ma:=(arr_text h.ma hK).kept hk (fun b _ h1 h2=>h1 (.inr h2)) (fun b _ h1 h2=>h1 (.inl h2))
   dg:=h.dg,fg:=h.fg,df:=h.df,gB:=h.gB,fo:=h.fo}
theorem At.setD (h:At w B g p m)(x:Nat)(hx:x<p.dl.length)(bD:Nat)(hD:p.D=some ⟨bD,0,none⟩)(k':Kn)(v':Value)(hv:Arr w (p.away B g) v' k'.arrays):
 At (w.setCells bD (x*5) (knC k' v')) B g {p with dl:=p.dl.set x (k',v')} {m with datas:=m.datas.set x k'}∧Path g p w {p with dl:=p.dl.set x (k',v')} (w.setCells bD (x*5) (knC k' v')):=by
 have hoD:ownB p.D=some bD:=by rw[hD];rfl
 have e:w.setCells bD (x*5) (knC k' v')=((((w.setCell ⟨bD,x*5,none⟩ (.string (T k'.text))).setCell ⟨bD,x*5+1,none⟩ (.int .u64 (k'.at_:Int))).setCell ⟨bD,x*5+2,none⟩ (.int .i64 (k'.slot:Int))).setCell ⟨bD,x*5+3,none⟩ (.int .i64 (k'.count:Int))).setCell ⟨bD,x*5+4,none⟩ v':=rfl
 have hk1:KeptF (One bD) w (w.setCells bD (x*5) (knC k' v')):=by
  rw[e]
  exact((((KeptF.set1 w bD _ _).setCell (p:=⟨bD,x*5+1,none⟩) (fun _=>rfl) _).setCell (p:=⟨bD,x*5+2,none⟩) (fun _=>rfl) _).setCell (p:=⟨bD,x*5+3,none⟩) (fun _=>rfl) _).setCell (p:=⟨bD,x*5+4,none⟩) (fun _=>rfl) _
 have hk:KeptF (p.foot g) w (w.setCells bD (x*5) (knC k' v')):=hk1.mono fun i hi=> .inr (.inr (.inl (by rw[show i=bD from hi];exact hoD)))
 refine⟨h.turn (p':={p with dl:=p.dl.set x (k',v')}) hk (fun _ h=> .inl h) ?_ ?_ ?_ ?_ h.fm ?_ (.inl ⟨rfl,rfl⟩) h.dg h.fg h.df (fun q hq=> .inl hq),⟨fun _ h=> .inl h,hk⟩⟩
 ·have h1:MkB (w.setCells bD (x*5) (knC k' v')) B g p.bb p.cb p.S m:=
   ⟨Kf.Blk.keptF h.st.st hk1 (fun h2=>(h.dg bD hoD).1 (show g=bD from h2).symm),Kf.Own.keptF h.st.own hk1 (fun j hj h2=>(h.dg bD hoD).2 (by injection hj with hj;exact((show j=bD from h2).symm.trans hj.symm))),h.st.ne⟩
  exact MkB.same h1 rfl rfl rfl rfl
 ·have h1:=h.dr
  rw[hD]at h1
  have h2:=ownE_set (ownE_set (ownE_set (ownE_set (ownE_set h1 (x*5) (.string (T k'.text))) (x*5+1) (.int .u64 (k'.at_:Int))) (x*5+2) (.int .i64 (k'.slot:Int))) (x*5+3) (.int .i64 (k'.count:Int))) (x*5+4) v'
  rw[←kf_set p.dl x hx k' v',←e,←hD]at h2
  exact h2
 ·exact Mf.OwnE.keptF h.fr hk1 (fun j hj h2=>h.df bD hoD ((show j=bD from h2)▸hj))
 ·show(p.dl.set x (k',v')).map Prod.fst=m.datas.set x k'
  rw[List.map_set,h.dm]
 ·intro q hq
  rcases List.mem_or_eq_of_mem_set (show q∈p.dl.set x (k',v')from hq)with h1|h1
  ·exact .inl h1
  ·right
   rw[h1]
   exact hv.kept hk (fun _ _ h h2=>h (.inl h2)) fun _ _ h=>h
end Nm
namespace No
open Bytes8 Blk8 Own8 OwnE Ob Od Ga Ma Kf Mb Mc Md Mf Mg Fb Dc Na Nc Nd Nh Nk Nm
theorem At.offB {w w':World}{B g:Nat}{p:Pl}{m:Mk}{G:Nat→Prop}(h:At w B g p m)(hk:KeptF G w w')(hG: ∀k,G k→k<B):At w' B g p m:=by
 have off: ∀k,p.foot g k→ ¬G k:=fun k hf hg=>by have h1:=(At.lt h k hf).1;have h2:=hG k hg;omega
 exact
  {st:=⟨Kf.Blk.keptF h.st.st hk (off _ (.inl rfl)),Kf.Own.keptF h.st.own hk (fun k hk'=>off k (.inr (.inl (by injection hk' with e;exact e.symm)))),h.st.ne⟩
   dr:=Mf.OwnE.keptF h.dr hk (fun k e=>off k (.inr (.inr (.inl e))))
   fr:=Mf.OwnE.keptF h.fr hk (fun k e=>off k (.inr (.inr (.inr e))))
   dm:=h.dm,fm:=h.fm
   da:=fun q hq=>(h.da q hq).kept hk (fun b _ h1 h2=>h1 (.inr (hG b h2))) (fun _ _ h=>h)
   ma:=h.ma.kept hk (fun b _ h1 h2=>h1 (.inr (hG b h2))) (fun _ _ h=>h)
   dg:=h.dg,fg:=h.fg,df:=h.df,gB:=h.gB,fo:=h.fo}
theorem keptF_setRow (w:World)(g:Nat)(cs:Array Value):KeptF (One g) w (w.setRow g cs):=by
 have hb:Below 0 w w:=Below.refl _ _
 refine⟨?_,?_,?_,?_,fun k hk hne=>?_⟩
 ·rfl
 ·rfl
 ·rfl
 ·simp
 ·exact setRow_other w g k cs hne
theorem At.restore {w:World}{B B2 g g2:Nat}{po:Pl}{m:Mk}(h:At w B2 g2 po m)(old:Array Value)(hg:w.heap[g]? =some (.cells old 168 (0,0)))(hgB:B≤g)(hg2:g<B2):
 At (w.setRow g (Mk.cells m {po.S with b:= .slice (some ⟨po.bb,0,none⟩) m.b.length po.cb}).toArray) B g po m:=by
 have hk:=keptF_setRow w g (Mk.cells m {po.S with b:= .slice (some ⟨po.bb,0,none⟩) m.b.length po.cb}).toArray
 have hlow:=At.lt h
 have hne: ∀k,po.foot g2 k→k≠g:=fun k hf e=>by have:=(hlow k hf).1;omega
 exact
  {st:=⟨setRow_heap _ g _ _ 168 (0,0) hg,Own.base (Kf.Own.keptF h.st.own hk (fun k hk' e=>hne k (.inr (.inl (by injection hk' with e;exact e.symm))) e)) (by omega),fun e=>hne po.bb (.inr (.inl rfl)) e.symm⟩
   dr:=ownE_base (Mf.OwnE.keptF h.dr hk (fun k e e2=>hne k (.inr (.inr (.inl e))) e2)) (by omega)
   fr:=ownE_base (Mf.OwnE.keptF h.fr hk (fun k e e2=>hne k (.inr (.inr (.inr e))) e2)) (by omega)
   dm:=h.dm,fm:=h.fm
   da:=fun q hq=>(h.da q hq).kept hk (fun b _ h1 h2=>h1 (.inr (by rw[show b=g from h2];exact hg2))) (fun b _ h1 h2=>h1 (h2.elim (fun h3=>h3.elim (fun h4=> .inr (by rw[h4];exact hg2)) (fun h4=> .inl (.inr h4))) (fun h3=> .inr (by omega))))
   ma:=h.ma.kept hk (fun b _ h1 h2=>h1 (.inr (by rw[show b=g from h2];exact hg2))) (fun b _ h1 h2=>h1 (h2.elim (fun h3=>h3.elim (fun h4=> .inr (by rw[h4];exact hg2)) (fun h4=> .inl (.inr h4))) (fun h3=> .inr (by omega))))
   dg:=fun k hk'=>⟨hne k (.inr (.inr (.inl hk'))),(h.dg k hk').2⟩
   fg:=fun k hk'=>⟨hne k (.inr (.inr (.inr hk'))),(h.fg k hk').2⟩
   df:=h.df,gB:=hgB,fo:=h.fo}
theorem set_I (m:Mk)(S:Sl)(k:Nat)(hk:k<64)(v:Int):(Mk.cells m S).set (55+k) (.int .u8 v)=Mk.cells {m with h:={m.h with I:=fun j=>if j=k then v else m.h.I j}} S:=by
 refine set_map _ _ _ _ _ ?_ fun j hj=>at_head _ _ _ _ rfl rfl fun h1 h2=>?_
 ·unfold Mk.at_
  rw[if_pos (by omega),if_neg (by omega)]
  unfold HD.at_
  rw[if_neg (by omega),if_pos (by omega)]
  dsimp only
  rw[if_pos (by omega)]
 ·unfold HD.at_
  dsimp only
  repeat' split
  all_goals first|rfl|(exfalso;omega)
variable {w : World} {B g : Nat} {p : Pl} {m : Mk}
theorem At.setI (h:At w B g p m)(k n:Nat)(hk:k<64)(hn:n=55+k)(v:Int):At (w.setCell ⟨g,n,none⟩ (.int .u8 v)) B g p {m with h:={m.h with I:=fun j=>if j=k then v else m.h.I j}}:=by
 subst hn
 exact Nk.At.head1 h _ _ _ fun S=>set_I m S k hk v
def upI (f:Nat→Int)(k:Nat)(v:Int):Nat→Int:=fun j=>if j=k then v else f j
theorem At.setI2 (I0:Nat→Int)(h:At w B g p {m with h:={m.h with I:=I0}})(k n:Nat)(hk:k<64)(hn:n=55+k)(v:Int):At (w.setCell ⟨g,n,none⟩ (.int .u8 v)) B g p {m with h:={m.h with I:=upI I0 k v}}:=At.setI h k n hk hn v
def upBoot (f K:Nat→Int):Nat→Int:=(upI (upI (upI (upI (upI (upI (upI (upI (upI (upI (upI (upI (upI (upI (upI (upI f 32 (K 0)) 33 (K 1)) 34 (K 2)) 35 (K 3)) 36 (K 4)) 37 (K 5)) 38 (K 6)) 39 (K 7)) 40 (K 8)) 41 (K 9)) 42 (K 10)) 43 (K 11)) 44 (K 12)) 45 (K 13)) 46 (K 14)) 47 (K 15))
theorem upBoot_is (f K:Nat→Int):upBoot f K=fun i=>if 32≤i∧i<48 then K (i-32)else f i:=by
 funext i
 unfold upBoot
 by_cases hi:32≤i∧i<48
 ·rw[if_pos hi]
  obtain⟨j,rfl⟩: ∃j,i=32+j:=⟨i-32,by omega⟩
  have hj:j<16:=by omega
  rcases j with _|_|_|_|_|_|_|_|_|_|_|_|_|_|_|_|j
  all_goals first|rfl|(exfalso;omega)
 ·rw[if_neg hi]
  unfold upI
  repeat rw[if_neg (by omega)]
theorem At.setBoot (h:At w B g p m)(K:Nat→Int):At (w.setCells g 87 [.int .u8 (K 0),.int .u8 (K 1),.int .u8 (K 2),.int .u8 (K 3),.int .u8 (K 4),.int .u8 (K 5),.int .u8 (K 6),.int .u8 (K 7),.int .u8 (K 8),.int .u8 (K 9),.int .u8 (K 10),.int .u8 (K 11),.int .u8 (K 12),.int .u8 (K 13),.int .u8 (K 14),.int .u8 (K 15)]) B g p {m with h:={m.h with I:=fun i=>if 32≤i∧i<48 then K (i-32)else m.h.I i}}:=by
 have h0:=At.setI2 m.h.I h 32 87 (by decide) rfl (K 0)
 have h1:=At.setI2 _ h0 33 88 (by decide) rfl (K 1)
 have h2:=At.setI2 _ h1 34 89 (by decide) rfl (K 2)
 have h3:=At.setI2 _ h2 35 90 (by decide) rfl (K 3)
 have h4:=At.setI2 _ h3 36 91 (by decide) rfl (K 4)
 have h5:=At.setI2 _ h4 37 92 (by decide) rfl (K 5)
 have h6:=At.setI2 _ h5 38 93 (by decide) rfl (K 6)
 have h7:=At.setI2 _ h6 39 94 (by decide) rfl (K 7)
 have h8:=At.setI2 _ h7 40 95 (by decide) rfl (K 8)
 have h9:=At.setI2 _ h8 41 96 (by decide) rfl (K 9)
 have h10:=At.setI2 _ h9 42 97 (by decide) rfl (K 10)
 have h11:=At.setI2 _ h10 43 98 (by decide) rfl (K 11)
 have h12:=At.setI2 _ h11 44 99 (by decide) rfl (K 12)
 have h13:=At.setI2 _ h12 45 100 (by decide) rfl (K 13)
 have h14:=At.setI2 _ h13 46 101 (by decide) rfl (K 14)
 have h15:=At.setI2 _ h14 47 102 (by decide) rfl (K 15)
 have e:=upBoot_is m.h.I K
 rw[←e]
 exact h15
theorem Path.setCells {g:Nat}{p p1:Pl}{w w1:World}(vs:List Value): ∀(o:Nat) (w1:World),Path g p w p1 w1→Path g p w p1 (w1.setCells g o vs):=by
 induction vs with
 |nil=>exact fun o w1 h=>h
 |cons v r ih=>exact fun o w1 h=>ih (o+1) _ (h.set o v)
theorem At.setNh (h0:HD)(h:At w B g p {m with h:=h0})(i k:Nat)(hi:i<20)(hk:k=119+i)(v:Int):At (w.setCell ⟨g,k,none⟩ (.int .u64 v)) B g p {m with h:=setN h0 i v}:=Nd.At.setN h i k hi hk v
theorem At.setBooth (h0:HD)(h:At w B g p {m with h:=h0})(K:Nat→Int):At (w.setCells g 87 [.int .u8 (K 0),.int .u8 (K 1),.int .u8 (K 2),.int .u8 (K 3),.int .u8 (K 4),.int .u8 (K 5),.int .u8 (K 6),.int .u8 (K 7),.int .u8 (K 8),.int .u8 (K 9),.int .u8 (K 10),.int .u8 (K 11),.int .u8 (K 12),.int .u8 (K 13),.int .u8 (K 14),.int .u8 (K 15)]) B g p {m with h:={h0 with I:=fun i=>if 32≤i∧i<48 then K (i-32)else h0.I i}}:=At.setBoot h K
theorem At.setTeh (h0:HD)(h:At w B g p {m with h:=h0})(v:Int):At (w.setCell ⟨g,141,none⟩ (.int .u64 v)) B g p {m with h:={h0 with te:=v}}:=Nk.At.setTe h v
theorem At.flat (h:At w B g p m):At w B g p {m with h:=m.h}:=h
end No
end Go.Proofs.YtiddkgcafpaekaaGreat
