/-
  Texts beneath.
-/
import Derived.Test.YteaikbodkgjkdaaGreatQl27
import Derived.Test.YteaikbodkgjkdaaGreatQl28
set_option linter.unusedVariables false
set_option linter.unusedSimpArgs false
set_option maxRecDepth 100000
set_option maxHeartbeats 8000000
open Go.ChangeShapes Go.WideShapes Go.ChangeAt Go.RowKit
namespace Go.Proofs.YteaikbodkgjkdaaGreat
namespace Nu
open Bytes8 Blk8 Own8 OwnA OwnE Rows2 Ob Od Ga Ma Kf Mb Mc Md Mf Mg Mh Mi Fa Fb Fc Dc Gb Na Nb Nc Nd Nf Nh Nk Nl Nm No Pr8 Pl8 Ni Np Nq Nr Ns Nt Seq8
theorem aOf:Elt 64 54 20 64 (.agg zR):=⟨Tryz.underlying54,by kernel_rfl,rfl,by decide⟩
structure Good (m:Mk):Prop where
 img:Img m
 most:m.C.most=32768
inductive Reach:Mk→List (List PR×Int×Int×(Nat→Int))→Prop
 |mk {C:Cf} (h:CfOk C) (after:Int) (ha:0≤after∧after≤18446744073709551615):Reach (Mk.new C after) []
 |step {m:Mk} {rs:List (List PR×Int×Int×(Nat→Int))} (h:Reach m rs) (L:List PR) (hP:AllP L) (real mono:Int) (K:Nat→Int) (hr:0≤real∧real≤18446744073709551615) (hm:0≤mono∧mono≤18446744073709551615) (hK:IdOk K) (h0:Mk.acode m L real mono K=0):Reach (Mk.after m L real mono K) (rs++ [(L,real,mono,K)])
structure GoodN (m:Mk)(n mo:Nat):Prop where
 img:Img m
 most:m.C.most=32768
 cnt:m.h.N 8=(n:Int)
 le:n≤mo
 rch: ∃rs,Reach m rs∧rs.length=n
theorem GoodN.good {m:Mk}{n a:Nat}(g:GoodN m n a):Good m:=⟨g.img,g.most⟩
theorem aDI {C:Cf}(h:CfOk C)(a:Int)(j:0≤a∧a≤18446744073709551615):Good (Mk.new C a):=by
 have e:=h.ds
 have d:=h.fs
 have g:(Mk.new C a).b.length=304+16*(C.ds+C.fs):=by
  show(z272++tabB 4 C.ds++tabB 5 C.fs).length=_
  rw[yA,yA,aAu,aAu]
  unfold z272
  rw[List.length_replicate]
  omega
 have c: ∀i,(Mk.new C a).h.N i=if i=9 then a else if i=7 then 2 else if i=6 then 288+16*(C.ds:Int)else if i=5 then 16*(C.fs:Int)else if i=4 then 304+16*(C.ds:Int)else if i=3 then 16*(C.ds:Int)else if i=2 then 288 else if i=0 then 272 else 0:=fun i=>rfl
 have f:Inv (Mk.new C a):=
  {F:=h.F,ds:=e,fs:=d
   n2:=rfl
   n4:=by
    show _=((Mk.tf (Mk.new C a):Nat):Int)
    rw[c 4]
    show 304+16*(C.ds:Int)=((304+16*C.ds:Nat):Int)
    omega
   len:=by show 304+16*(C.ds+C.fs)≤_;omega
   l8:=by omega
   dat:=fun k hk=>by cases hk
   fld:=fun k hk=>by cases hk
   mn:=⟨0,rfl,Chain.nil _,Nat.zero_le _⟩
   n7:=by rw[c 7];show 0≤(2:Int)∧(2:Int)≤_;omega
   n15:=by rw[c 15];show 0≤(0:Int)∧(0:Int)≤_;omega
   n16:=by rw[c 16];show 0≤(0:Int)∧(0:Int)≤_;omega
   n18:=by rw[c 18];show 0≤(0:Int)∧(0:Int)≤_;omega
   n19:=by rw[c 19];show 0≤(0:Int)∧(0:Int)≤_;omega
   dep:=Nat.zero_le _
   dn:=Nat.zero_le _
   fn:=Nat.zero_le _}
 refine⟨⟨f,⟨rfl,rfl,rfl,rfl,?_,fun i=>?_,fun i hi=>?_,⟨Int.le_refl _,by show(0:Int)≤4294967295;decide⟩,⟨Int.le_refl _,by show(0:Int)≤4294967295;decide⟩,⟨Int.le_refl _,by show(0:Int)≤18446744073709551615;decide⟩⟩,by omega⟩,h.most⟩
 ·show(if C.keyed then(4:Int)else 0)=0∨(if C.keyed then(4:Int)else 0)=4
  cases C.keyed
  ·exact .inl rfl
  ·exact .inr rfl
 ·show 0≤hdI3 C i∧hdI3 C i<256
  unfold hdI3
  repeat' split
  ·exact h.F _
  ·exact h.M _
  ·decide
  ·exact h.S _
 ·rw[c i]
  repeat' split
  all_goals omega
theorem aEC {E S:TypeId}{size f:Nat}{z:Value}(G:Elt E S size f z)(w:World)(F:TypeId)(base:Nat)(A:Option Addr)(n c:Nat)(xs:List Value)(C:OwnE E size w base A n c xs)(s:Addr)(m B:Nat)(a:List Value)(D:a.length=m*size)
 (b: ∀j u,a[j]? =some u→w.cell? (s.add j)=some u)(N: ∀u∈a,u.oneCell'=true)(H:n+m≤4611686018427387904)(d:(n+m)*f≤140737488355328)(M:n+m≤maxLen):
 ∃p y w',(Builtin.append_ #[S,S] F #[.slice A n c,.slice (some s) m B]).run Tryz.prog w= .ok (.slice p (n+m) y) w'∧OwnE E size w' base p (n+m) y (xs++a)∧w.grownBy w' (ownB A)∧(ownB p=ownB A∨(ownB p=some w.heap.size∧w.grownBy w' none)):=by
 obtain⟨p,y,w',v,Y,R,q⟩:=aAA G w F base A n c xs C s m B a D b N H d M
 refine⟨p,y,w',v,Y,R,?_⟩
 obtain⟨i,V,x⟩:=Option.map_eq_some_iff.1 G.info
 simp only[Prod.mk.injEq]at x
 obtain⟨hz,hs,I⟩:=x
 rcases C.2.2 with⟨X,h0⟩|⟨g,aa,r,hv,ab,hg,ac,Z,L,J⟩
 ·injection X with e1 e2 e3
  subst e1
  rcases q with q|q
  ·exact .inl q
  ·exact .inr ⟨q,R⟩
 ·injection hv with e1 e2 e3
  subst e1 e3
  by_cases e:n+m≤c
  ·have t:n*i.size+a.length≤r.size:=by rw[D,L,hs,←Nat.add_mul];exact Nat.mul_le_mul_right _ e
   have l:=run_append_room (P:=Tryz.prog) w S F E i G.under V g n c r hg s m B a (by rw[hs];exact D) b N e t
   rw[l]at v
   injection v with hr3 _
   injection hr3 with hr4 _ _
   exact .inl (by rw[←hr4])
  ·have o: ∀j u,xs[j]? =some u→w.cell? ((⟨g,0,none⟩:Addr).add j)=some u:=C.2.cells (g:=g) rfl
   have l:=run_append_grow (P:=Tryz.prog) w S F E i z G.under V hz ⟨g,0,none⟩ n c xs (by rw[hs];exact C.2.1) o s m B a (by rw[hs];exact D) b (by omega) (by omega) (growslice_fits (by omega) (by rw[I];exact d))
   rw[l]at v
   injection v with hr3 hr4
   injection hr3 with hr5 _ _
   refine .inr ⟨by rw[←hr5];rfl,?_⟩
   rw[←hr4]
   have k:=World.grownBy_alloc w.drew (.cells (xs.toArray++a.toArray++Builtin.zeroCells z.cells (grownCap w (n+m) c E-(n+m))) E) none
   exact⟨k.os,k.tape,k.output,k.size,k.block⟩
theorem wpList_append_new {E S:TypeId}{size d:Nat}{z:Value}(J:Elt E S size d z){w:World}{i:Array Oper}{rest:List Oper}{o:Oper}{a:Act}{Q:Exit→Act→World→Prop}(l:o.guard=none)(s x:Operand)
 (p:o.op= .call {callee:= .builtin .append,args:= #[s,x],argTypes:= #[S,S]})
 (base:Nat)(A:Option Addr)(n c:Nat)(xs:List Value)(hs:a.eval s= .slice A n c)(D:OwnE E size w base A n c xs)(r:Addr)(m v:Nat)(b:List Value)(I:a.eval x= .slice (some r) m v)(F:b.length=m*size)
 (f: ∀j u,b[j]? =some u→w.cell? (r.add j)=some u)(C: ∀u∈b,u.oneCell'=true)(q:n+m≤4611686018427387904)(e:(n+m)*d≤140737488355328)(t:n+m≤maxLen)
 (h: ∀g k w',OwnE E size w' base g (n+m) k (xs++b)→w.grownBy w' (ownB A)→(ownB g=ownB A∨(ownB g=some w.heap.size∧w.grownBy w' none))→wpList Tryz.prog i Q rest (a.put o.dst (.slice g (n+m) k)) w'):wpList Tryz.prog i Q (o::rest) a w:=
 wpList_plain l fun _ hK=>by
  obtain⟨g,k,w',G,y,H,B⟩:=aEC J w o.type base A n c xs D r m v b F f C q e t
  unfold Oper.wp execOp
  simp only[p,resolve,invoke,builtin,Sem.run_bind,Sem.run_pure,Result.andThen_ok,List.map_toArray,List.map_cons,List.map_nil,hs,I,G]
  exact hK _ _ (h g k w' y H B)
structure Rws (w:World)(B0:Nat)(A:Option Addr)(n c:Nat)(xs:List Value):Prop where
 own:OwnE 64 20 w B0 A n c xs
 nil:n=0→A=none
 u8:0<n→ ∃v,xs[3]? =some (.int .u8 v)
theorem aID {w w':World}{y:Nat}{A:Option Addr}{n c:Nat}{xs:List Value}{Ft:Nat→Prop}{v:Value}{l:List Nat}(X:Arr w Ft v l)(h:Rws w y A n c xs){x:Option Addr}{B D:Nat}{p:List Value}(J:OwnE 64 20 w' y x B D (xs++p))(u:w.grownBy w' (ownB A))(G:ownB x=ownB A):Arr w' Ft v l:=by
 obtain⟨R,n2,H,rfl,L,z⟩:=X
 refine⟨R,n2,H,rfl,L,fun i hi=>?_⟩
 obtain⟨b,e,t,I,f⟩:=z i hi
 refine⟨b,e,yL t u.size,I,?_⟩
 by_cases d:ownB A=some b
 ·have N:0<n:=by
   rcases Nat.eq_zero_or_pos n with r|r
   ·rw[h.nil r]at d;cases d
   ·exact r
  have hlen:=OwnE.len h.own
  have s:xs.length=n*20:=hlen
  have g: ∀(j:Nat) (hj:j<xs.length),w.cell? ⟨b,j,none⟩=xs[j]? :=fun j hj=>by
   obtain⟨b2,F,_,_,C⟩:=OwnE.cell h.own (i:=j) (by omega)
   rw[F]at d
   have k:b2=b:=by simpa [ownB]using d
   subst k
   exact C
  have q:i<xs.length:=by
   rcases Nat.lt_or_ge i xs.length with q|q
   ·exact q
   ·exfalso
    obtain⟨Z,o,_,_,m⟩:=z 3 (by omega)
    rw[e]at o
    injection o with o
    injection o with o
    subst o
    rw[g 3 (by omega)]at m
    obtain⟨v,V⟩:=h.u8 N
    rw[V]at m
    cases m
  obtain⟨M,Y,_,_,E⟩:=OwnE.cell J (i:=i) (by rw[yA];omega)
  rw[G.symm.trans (by rw[Y])]at d
  have k:M=b:=by simpa [ownB]using d
  subst k
  rw[E,List.getElem?_append_left q,←g i q]
  exact f
 ·exact(World.cell?_of_block (a:=⟨b,i,none⟩) (u.block b t (fun e=>d e.symm))).trans f
theorem At.rows {w w':World}{B g:Nat}{p:Pl}{m:Mk}(h:At w B g p m){o:Nat}{A:Option Addr}{n c:Nat}{xs:List Value}(s:Rws w o A n c xs)(i: ∀k,ownB A=some k→ ¬p.foot g k)
 {l:Option Addr}{t u:Nat}{b:List Value}(r:OwnE 64 20 w' o l t u (xs++b))(j:w.grownBy w' (ownB A))(f:ownB l=ownB A∨(ownB l=some w.heap.size∧w.grownBy w' none)):At w' B g p m:=by
 rcases f with f|⟨_,d⟩
 ·have hk:=KeptF.grow _ j
  have a: ∀k,p.foot g k→ ¬(ownB A=some k):=fun k hf e=>i k e hf
  exact
   {st:=⟨Kf.Blk.keptF h.st.st hk (a _ (.inl rfl)),Kf.Own.keptF h.st.own hk (fun k hk'=>a k (.inr (.inl (by injection hk' with e;exact e.symm)))),h.st.ne⟩
    dr:=Mf.OwnE.keptF h.dr hk (fun k e=>a k (.inr (.inr (.inl e))))
    fr:=Mf.OwnE.keptF h.fr hk (fun k e=>a k (.inr (.inr (.inr e))))
    dm:=h.dm,fm:=h.fm
    da:=fun q hq=>aID (h.da q hq) s r j f
    ma:=aID h.ma s r j f
    dg:=h.dg,fg:=h.fg,df:=h.df,gB:=h.gB,fo:=h.fo}
 ·exact h.below ⟨d.os,d.tape,d.output,d.size,fun k hk=>d.block k hk (by simp)⟩
theorem aIE {w w':World}{g:Nat}(h:KeptB w.heap.size g w w'):KeptF (One g) w w':=⟨h.os,h.tape,h.output,h.size,fun k hk hne=>h.block k hk hne⟩
structure RowsR (wr:World)(gq:Nat)(F:Nat→Prop)(A:Option Addr)(xs:List Value)(b0:Int)(rs:List (List PR×Int×Int×(Nat→Int))):Prop where
 len:xs.length=rs.length*20
 at_: ∀i (h:i<rs.length),∃(Ar:Option Addr) (nr cr:Nat),(xs.drop (20*i)).take 20=recL (b0+i+1) rs[i].2.1 rs[i].2.2.1 rs[i].2.2.2 (.slice Ar nr cr)∧rs[i].1.length=nr∧nr≤16∧Prs wr Ar rs[i].1∧ ∀b off,Ar=some ⟨b,off,none⟩→0<nr→b<wr.heap.size∧b≠gq∧ ¬F b∧ownB A≠some b
theorem RowsR.step {wr w':World}{g:Nat}{F n:Nat→Prop}{A o:Option Addr}{xs:List Value}{b0:Int}{rs:List (List PR×Int×Int×(Nat→Int))}(h:RowsR wr g F A xs b0 rs){G:Nat→Prop}(f:KeptF G wr w')(p: ∀b,b<wr.heap.size→G b→b=g∨F b∨ownB A=some b)
 (t: ∀b,b<wr.heap.size→n b→F b)(v: ∀b,b<wr.heap.size→ownB o=some b→ownB A=some b):RowsR w' g n o xs b0 rs:=
 ⟨h.len,fun i hi=>by
   obtain⟨q,k,cr,r,w,s,u,l⟩:=h.at_ i hi
   refine⟨q,k,cr,r,w,s,?_,fun b off e hn=>?_⟩
   ·rcases Nat.eq_zero_or_pos k with m|m
    ·rw[List.eq_nil_of_length_eq_zero (show rs[i].1.length=0 by omega)]
     exact Prs.nil _ _
    ·exact u.keptB f.size fun b off e hb=>f.block b hb fun hg=>by
      obtain⟨a,d,j,c⟩:=l b off e m
      rcases p b hb hg with h|h|h
      ·exact d h
      ·exact j h
      ·exact c h
   ·obtain⟨a,d,j,c⟩:=l b off e hn
    exact⟨yL a f.size,d,fun hf=>j (t b a hf),fun ha=>c (v b a ha)⟩⟩
theorem RowsR.snoc {wr:World}{g:Nat}{F:Nat→Prop}{A:Option Addr}{xs:List Value}{b0:Int}{rs:List (List PR×Int×Int×(Nat→Int))}(h:RowsR wr g F A xs b0 rs)(r:List PR×Int×Int×(Nat→Int)){e:Option Addr}{c cr:Nat}{n:Int}(hs:n=b0+rs.length+1)(q:r.1.length=c)(m:c≤16)(o:Prs wr e r.1)
 (p: ∀b off,e=some ⟨b,off,none⟩→0<c→b<wr.heap.size∧b≠g∧ ¬F b∧ownB A≠some b):RowsR wr g F A (xs++recL n r.2.1 r.2.2.1 r.2.2.2 (.slice e c cr)) b0 (rs++ [r]):=by
 have d:(recL n r.2.1 r.2.2.1 r.2.2.2 (.slice e c cr)).length=20:=rfl
 have s:=h.len
 refine⟨by rw[yA,yA,d,List.length_singleton,h.len];omega,fun i hi=>?_⟩
 by_cases a:i<rs.length
 ·obtain⟨f,l,k,t,u⟩:=h.at_ i a
  rw[List.getElem_append_left a]
  refine⟨f,l,k,?_,u⟩
  rw[List.drop_append_of_le_length (by omega),List.take_append_of_le_length (by rw[List.length_drop];omega)]
  exact t
 ·have j:i=rs.length:=by rw[yA,List.length_singleton]at hi;omega
  subst j
  refine⟨e,c,cr,?_,?_⟩
  ·rw[List.drop_left' (by omega),List.take_of_length_le (by rw[d];exact yR _)]
   simp[hs]
  ·simpa using⟨q,m,o,p⟩
theorem aFB {m:Mk}{L:List PR}{real mono:Int}{K:Nat→Int}(a:Mk.acode m L real mono K=0):(Mk.after m L real mono K).h.N 9=m.h.N 9+1∧m.h.N 9≠18446744073709551615:=by
 refine⟨?_,fun h9=>?_⟩
 ·unfold Mk.after
  rw[if_pos a]
  show(Mk.told _ _ _ _ _ _ _).h.N 9=_
  rw[aEV _ _ _ _ _ _ _ _ (by decide),if_neg (by decide),if_neg (by decide),if_pos rfl]
 ·unfold Mk.acode at a
  by_cases b:listE L=0
  ·rw[if_neg (by simpa using b),if_pos h9]at a
   cases a
  ·rw[if_pos b]at a;exact absurd a b
structure LM (wr:World)(B0 B g gq:Nat)(a:Option Addr)(len cap:Nat)(f:Nat→Int)(A:Option Addr)(n c:Nat)(w:World)(mo:Nat):Prop where
 jr: ∃p m rs xs b0,At wr B g p m∧GoodN m n mo∧(∀k,ownB A=some k→ ¬p.foot g k)∧Rws wr B A n c xs∧Reach m rs∧rs.length=n∧m.h.N 9=b0+(n:Int)∧RowsR wr gq (p.foot g) A xs b0 rs
 sq: ∃k,SeqIn wr gq a len cap f k
 kp:KeptB B0 gq w wr
def MadeJ (gq mo:Nat)(w:World)(e:Ending)(w':World):Prop:= ∃(g:Nat) (A:Option Addr) (n c B:Nat) (p:Pl) (m:Mk),e= .returned (.tuple #[.pointer (some ⟨g,0,none⟩),.slice A n c])∧w.heap.size≤B∧At w' B g p m∧GoodN m n mo∧KeptB w.heap.size gq w w'
def MadeR (gq mo:Nat)(w:World)(e:Ending)(w':World):Prop:= ∃(g:Nat) (A:Option Addr) (n c B:Nat) (p:Pl) (m:Mk) (rs:List (List PR×Int×Int×(Nat→Int))) (xs:List Value) (b0:Int),e= .returned (.tuple #[.pointer (some ⟨g,0,none⟩),.slice A n c])∧w.heap.size≤B∧At w' B g p m∧GoodN m n mo∧KeptB w.heap.size gq w w'∧Rws w' B A n c xs∧Reach m rs∧rs.length=n∧m.h.N 9=b0+(n:Int)∧RowsR w' gq (p.foot g) A xs b0 rs
theorem rec_range {w:World}{g:Nat}{T:TypeId}{s r m:Int}{K:Nat→Int}{F:Value}(h:Blk w g (recL s r m K F) T):w.rangeAt g 3 (idJ K):=fun j v hj=>by
 have a:j<16:=(List.getElem?_eq_some_iff.1 hj).1
 refine h.cell (i:=3+j) ?_
 rw[aC7 K j a]at hj
 rcases j with _|_|_|_|_|_|_|_|_|_|_|_|_|_|_|_|j
 all_goals first|exact hj|omega
theorem aDa {m:Mk}(g:Good m){L:List PR}(s:AllP L)(real mono:Int)(K:Nat→Int)(j:0≤real∧real≤18446744073709551615)(l:0≤mono∧mono≤18446744073709551615)(u:IdOk K):Good (Mk.after m L real mono K):=by
 unfold Mk.after
 by_cases a:Mk.acode m L real mono K=0
 ·rw[if_pos a]
  unfold Mk.acode at a
  by_cases c:listE L=0
  ·rw[if_neg (by simpa using c)]at a
   by_cases d:m.h.N 9=18446744073709551615
   ·rw[if_pos d]at a;cases a
   ·rw[if_neg d]at a
    by_cases k:m.C.most<(Mk.grown m (listL L) real mono K).b.length
    ·rw[if_pos k]at a;cases a
    ·obtain⟨n16,e⟩:=aFA c
     obtain⟨n,v,o,t,w⟩:=aGo g.img.inv g.img.hg (listL L) (fun q hq=>by
      obtain⟨p,r⟩:=e q hq
      have i:=s q p
      have f:=aBi r
      exact⟨i.1,i.2.1,f.1,f.2⟩) n16 g.img.len real mono K j l u d
     exact⟨⟨n,v,by rw[t];have:=g.most;omega⟩,by rw[o];exact g.most⟩
  ·rw[if_pos c]at a;exact absurd a c
 ·rw[if_neg a];exact g
theorem aDb {m:Mk}(h:Inv m)(g:HG m)(L:List PR)(C: ∀q∈L,AllB q.1∧AllB q.2∧q.1.length≤64∧q.2.length≤256)(r:L.length≤16)(hb:m.b.length≤32768)(real mono:Int)(K:Nat→Int)
 (hr:0≤real∧real≤18446744073709551615)(hm:0≤mono∧mono≤18446744073709551615)(hK:IdOk K)(h9:m.h.N 9≠18446744073709551615):
 (Mk.entered m L real mono K).h.N 8=m.h.N 8+1:=by
 have n9:=g.nb 9 (by omega)
 obtain⟨l,F,D,Y,o⟩:=aAs h L C L.length (yR _)
 have w:=aC4 g h L C r (by omega) L.length (yR _)
 rw[List.take_length]at l F D Y o w
 unfold Mk.entered Mk.grown
 dsimp only
 generalize aa:Mk.dataAll m L=s at*
 obtain⟨a,who⟩:=s
 dsimp only at*
 obtain⟨d,i,f,u⟩:=l.mn
 have p:(Mk.eobj a who (L.map fun q=>pay q.1 q.2) (m.h.N 9+1) real mono K).length%8=0∧0<(Mk.eobj a who (L.map fun q=>pay q.1 q.2) (m.h.N 9+1) real mono K).length∧(Mk.eobj a who (L.map fun q=>pay q.1 q.2) (m.h.N 9+1) real mono K).length≤400∧64≤(Mk.eobj a who (L.map fun q=>pay q.1 q.2) (m.h.N 9+1) real mono K).length:=by
  have e:=aDG a who (L.map fun q=>pay q.1 q.2) (m.h.N 9+1) real mono K
  omega
 generalize Mk.eobj a who (L.map fun q=>pay q.1 q.2) (m.h.N 9+1) real mono K=c at*
 obtain⟨e1,R,e3,e4⟩:=p
 have x:=aA7 l c e1 R
 have Z:=aBR w c (by omega)
 have G:=aAM a c
 have j:Chain (a.object c).b.length (a.object c).main d:=f.mono (by omega)
 have t:(a.object c).h.N 8=(d:Int):=i
 have z:=l.len
 have e8:(m.h.N 8).toNat=d:=by rw[←o.n8,i];rfl
 rw[e8]
 obtain⟨X,g2,g3,B,g5,g6,M⟩:=aBx x a.b.length d t j (by omega) (by omega)
 have V:=aGn Z x a.b.length d j (by omega) (by omega)
 generalize Mk.linked (a.object c) a.b.length d=n at*
 have k:InvM a.b.length 0 n:=⟨X,fun k' hk'=>by rw[B]at hk';exact(l.dat k' hk').2.2.2.2,by omega⟩
 have A: ∀y∈who,y<n.datas.length:=fun y hy=>by rw[B];exact D y hy
 obtain⟨E,k2,I,k4,J,k6,v⟩:=aAL k a.b.length who A (by omega) who.length (yR _)
 have H:=aC5 V k a.b.length who A (by omega) (by omega) who.length (yR _)
 rw[List.take_length]at E k2 I k4 J k6 v H
 show(Mk.told (Mk.markAll a.b.length n who) _ _ _ _ _ _).h.N 8=_
 have hk:(Mk.markAll a.b.length n who).h.N 8=m.h.N 8:=by rw[v,M];exact o.n8
 rw[←hk]
 unfold Mk.told setN
 dsimp only
 repeat' split
 all_goals (simp_all (config:={decide:=true}))
theorem aHA {m:Mk}{n a:Nat}(g:GoodN m n a)(c:n<a){L:List PR}(k:AllP L)(real mono:Int)(K:Nat→Int)(d:0≤real∧real≤18446744073709551615)(i:0≤mono∧mono≤18446744073709551615)(l:IdOk K):(Mk.acode m L real mono K=0→GoodN (Mk.after m L real mono K) (n+1) a)∧(Mk.acode m L real mono K≠0→GoodN (Mk.after m L real mono K) n a):=by
 refine⟨fun h0=>?_,fun h0=>?_⟩
 ·have p:=aDa g.good k real mono K d i l
  obtain⟨rs,j,e⟩:=g.rch
  refine⟨p.img,p.most,?_,c,_,Reach.step j L k real mono K d i l h0,by rw[yA,e];rfl⟩
  unfold Mk.after
  rw[if_pos h0]
  unfold Mk.acode at h0
  by_cases b:listE L=0
  ·rw[if_neg (by simpa using b)]at h0
   by_cases r:m.h.N 9=18446744073709551615
   ·rw[if_pos r]at h0;cases h0
   ·obtain⟨n16,f⟩:=aFA b
    rw[aDb g.img.inv g.img.hg (listL L) (fun q hq=>by
       obtain⟨t,u⟩:=f q hq
       have s:=k q t
       have o:=aBi u
       exact⟨s.1,s.2.1,o.1,o.2⟩) n16 g.img.len real mono K d i l r,g.cnt]
    rfl
  ·rw[if_pos b]at h0;exact absurd h0 b
 ·unfold Mk.after
  rw[if_neg h0]
  exact g
def slen:Value→Nat
 | .slice _ n _=>n
 |_=>0
theorem aIF (s r m:Int)(K:Nat→Int)(A:Option Addr)(n c:Nat): ∀u∈recL s r m K (.slice A n c),u.oneCell'=true:=fun u hu=>by
 simp only[recL,List.mem_cons,List.not_mem_nil,or_false]at hu
 rcases hu with h|h|h|h|h|h|h|h|h|h|h|h|h|h|h|h|h|h|h|h<;>(rw[h];rfl)
attribute [local irreducible] Mk.cells HD.cells Cf.cells wpList Code.wp
theorem aEX (o:Nat)(a:Option Addr)(len J:Nat)(f:Nat→Int)(k:Nat)(mo:Nat)(w:World)(h:SeqIn w o a len J f k)(bU:mo≤1000):
 Calls Tryz.prog 21 #[.pointer (some ⟨o,0,none⟩),.int .i64 (mo:Int)] w (MadeR o mo w):=by
 have bR:=h.1.lt
 have Q0:=yH h
 have bM:=yH (show 0<len→ ∀b off,a=some ⟨b,off,none⟩→b<w.heap.size from fun R b off e=>by obtain⟨b',bO,e',I,_⟩:=h.2.1 0 R;rw[e]at e';injection e' with e';injection e' with e';omega)
 have HC:=yH (aJw o a len J f k w h)
 have HS:=yH fun(b:Int) (I:1≤b) (h2:b≤1000000) (j:Nat) (W:World) (hW:SeqIn W o a len J f j)=>aHx o a len J f j b W I h2 hW
 have bm:=yH fun(C:Cf) (x:Int) (W:World) (hds:0<C.ds∧C.ds≤64) (hfs:0<C.fs∧C.fs≤64)=>aDr C x W hds hfs
 clear h
 go_enter Tryz.func21,Tryz.ntmps21
 go_upto_region 2 with(first
  |(go_at_call 57;(with_reducible refine HC.out.mono ?_);rintro e w1 ⟨C,rfl,aJ,bq,br⟩;have Y:=yH aJ;have Q1:=yH bq;have K1:=yH br;clear aJ bq br)
  |((with_reducible apply aAa (.tmp 6) (.tmp 13));refine wpList_store_row rfl 86 (.tmp 6) (.tmp 13) rfl w1.heap.size (Cf.cells C).toArray rfl rfl 86 zC (heap_alloc_new w1 _) (aHy _) (aIB _) (Cf.one _) ?_)
  |fail)
 have R2:=yH (show Blk ((w1.alloc (.cells zC 86)).setRow w1.heap.size (Cf.cells C).toArray) w1.heap.size (Cf.cells C) 86 from setRow_heap _ _ _ _ _ (0,0) (heap_alloc_new w1 _))
 have B2:=yH (show Below w1.heap.size w1 ((w1.alloc (.cells zC 86)).setRow w1.heap.size (Cf.cells C).toArray)from below_setRow ((yB _ _).alloc (yR _) _) (yR _) _)
 generalize (w1.alloc (.cells zC 86)).setRow w1.heap.size (Cf.cells C).toArray=w2 at*
 have Q2:=yH (Q1.out.below B2.out)
 have K2:=yH (K1.out.trans (KeptB.of_below (B2.out.mono K1.out.size)))
 have aY:=R2.out.lt
 have bf:o<w1.heap.size:=Q1.out.1.lt
 generalize w1.heap.size=s at*
 clear Q0 HC Q1 K1 B2
 have bk:=yH (Q2.out.below (yB _ _).drew)
 have aQ:=yH (K2.out.drew)
 have bo:=yH (R2.out.drew)
 have aE:s<w2.drew.heap.size:=aY
 have S2:=yH (show w2.drew.rangeAt s 0 (Cf.cells C)from fun j v hj=>by rw[Nat.zero_add];exact R2.out.cell hj)
 refine wp_region_noPanic ?_
 refine wp_region_held_drew (S:=fun W:World=>W.rangeAt s 0 (Cf.cells C)) (by kernel_rfl) (by exact S2.out) (fun hHeld=>?_)
 refine tk (i:=0) (oi:=⟨some 14,_,_,_,_,_⟩) rfl (yieldsIf_load_mid (by rfl) _ _ rfl _ _ rfl _ _ (fun _ h=>h) Tryz.underlying86 rfl (Cf.info C)) ?_
 try simp only[Act.put,sA,sZ,sS]
 refine tq 1 15 rfl (fun W hSw=>by go_simp;try (with_reducible rfl)) ?_
 try simp only[Act.put,sA,sZ,sS]
 refine rd 2 rfl (fun K hK=>?_)
 go_simp
 (refine(HS.out 6 (by decide) (by decide) _ _ bk.out).mono ?_);rintro e w3 ⟨r6,rfl,bD,a1,aP⟩;have aW:IntKind.u64.wrap (r6:Int)=(r6:Int):=by {rw[IntKind.wrap_u64];omega};have Q3:=yH a1;have K3:=yH (aQ.out.trans (aP.mono aQ.out.size));have R3:=yH (Seq8.Blk.keptB bo.out aP aE (Nat.ne_of_gt bf));have S3:=yH (show w3.rangeAt s 0 (Cf.cells C)from fun j v hj=>by {rw[Nat.zero_add];exact R3.out.cell hj});clear a1 aP
 try go_wp2_with fail
 refine hK.out _ _ (by exact S3.out) (fun hHeld=>?_)
 clear hK K
 try simp only[Act.put,sA,sZ,sS]
 refine tq 3 17 rfl (fun W hSw=>by go_simp;try (with_reducible rfl)) ?_
 try simp only[Act.put,sA,sZ,sS]
 refine rd 4 rfl (fun K hK=>?_)
 go_simp
 (refine(bm.out C _ _ Y.out.ds Y.out.fs).mono ?_);rintro e w4 ⟨g,rfl,⟨p4,aC⟩,aR⟩;have B4:=yH aR;have S4:=yH (show w4.rangeAt s 0 (Cf.cells C)from fun j v hj=>by {rw[Nat.zero_add];exact(R3.out.below aR R3.out.lt).cell hj});clear aR
 try go_wp2_with fail
 refine hK.out _ _ (by exact S4.out) (fun hHeld=>?_)
 clear hK K
 try simp only[Act.put,sA,sZ,sS]
 refine tq 5 7 rfl (fun W hSw=>by go_simp;try (with_reducible rfl)) ?_
 try simp only[Act.put,sA,sZ,sS]
 refine wpAnyH_done (by kernel_rfl) ?_ _
 refine NoPanic.normal ?_
 have D:=yH aC
 have Q4:=yH (Q3.out.below B4.out)
 have K4:=yH (K3.out.trans (KeptB.of_below (B4.out.mono K3.out.size)))
 have aa:w.heap.size≤w3.heap.size:=K3.out.size
 have HG:=yH (show GoodN (Mk.new C (r6:Int)) 0 mo from⟨(aDI Y.out _ (by omega)).img,(aDI Y.out _ (by omega)).most,rfl,Nat.zero_le _,[],Reach.mk Y.out _ (by omega),rfl⟩)
 generalize Mk.new C (r6:Int)=m0 at*
 generalize w3.heap.size=B at*
 clear aC Q2 K2 R2 aY bk S2 aQ bo aE bm HS Y aW bD bf
 go_upto_region 4 with fail
 have a3:=yH (show LM w4 w.heap.size B g o a len J f none 0 0 w mo from by
  obtain⟨bA,bG,aT⟩:=HG.out.rch
  exact⟨⟨p4,m0,bA,[],m0.h.N 9,D.out,HG.out,(fun k h=>by cases h),⟨OwnE.nil _ _ (by have:=(D.out.lt g (.inl rfl));omega),fun _=>rfl,fun h=>absurd h (by decide)⟩,bG,aT,(Int.add_zero _).symm,⟨by rw[aT];rfl,fun i hi=>absurd hi (by omega)⟩⟩,⟨_,Q4.out⟩,K4.out⟩)
 clear D HG Q4 K4
 go_loopw [8] (fun a8 wr=> ∃(A:Option Addr) (n c:Nat),a8= .slice A n c∧n≤mo∧Hid (LM wr w.heap.size B g o a len J f A n c w mo)) (fun a8 _=>mo-slen a8)
 case atStart=>exact⟨none,0,0,rfl,Nat.zero_le _,a3⟩
 case round=>
  obtain⟨A,n,c,rfl,hn,hL⟩:=hrel
  obtain⟨⟨p,m,rs,xs,b0,bt,aS,az,ay,au,bd,bx,aH⟩,⟨k,a6⟩,a4⟩:=hL.out
  have X:=yH au
  have ac:=yH bd
  have ai:=yH bx
  have af:=yH aH
  have D:=yH bt
  have H:=yH aS
  have aF:=yH az
  have a0:=yH a6
  have Z:=yH a4
  have l:=yH ay
  clear hL a3 bt aS az a6 a4 ay au bd bx aH
  have al:=yH (aMM o a len J f k wr a0.out)
  by_cases bB:n<mo
  ·have d1:decide ((n:Int)<(mo:Int))=true:=by simp;omega
   by_cases hk:k<len
   ·have d2:decide (k<len)=true:=by simpa using hk
    rw[d2]at al
    go_upto_region 5 with(first
     |(go_at_call 24;(refine al.out.mono ?_);rintro e w5 ⟨rfl,ao⟩;have B5:=yH ao;clear ao)
     |fail)
    have aL:=yH (At.below D.out B5.out)
    have Q5:=yH (a0.out.below B5.out)
    have a2:=yH (aDE B g p.bb p.cb p.S m w5 aL.out.st)
    have aO:=yH fun(x:Int)=>aJy o a len J f k x w5 Q5.out
    unfold Recorded at aO
    obtain⟨V,bu⟩: ∃y,IntKind.u64.wrap (m.h.N 9+1)=y:=⟨_,rfl⟩
    clear d1 d2 al
    go_upto_region 6 with(first
     |(go_at_call 26;(refine a2.out.mono ?_);rintro e w6 ⟨rfl,rfl⟩)
     |(go_at_call 25;(refine(aO.out _).mono ?_);rintro e w7 ⟨L,u,z,cr,k7,r,d,x,rfl,bl,bN,bj,bT,bS,bJ,bs,aV,av⟩;have ar:=yH bl;have aK:=yH bj;have ba:=yH bs;have an:=yH aV;have a5:=yH av;clear bl bj bs aV av)
     |((with_reducible apply aAa (.tmp 9) (.tmp 31));refine wpList_store_row rfl 64 (.tmp 9) (.tmp 31) rfl w7.heap.size (recL V (r:Int) (d:Int) (mkId x) (.slice u z cr)).toArray rfl rfl 64 zR (heap_alloc_new w7 _) (aAm _ _ _ _ _) rfl (by simp[Value.oneCell']) ?_)
     |fail)
    have R8:=yH (show Blk ((w7.alloc (.cells zR 64)).setRow w7.heap.size (recL V (r:Int) (d:Int) (mkId x) (.slice u z cr)).toArray) w7.heap.size (recL V (r:Int) (d:Int) (mkId x) (.slice u z cr)) 64 from setRow_heap _ _ _ _ _ (0,0) (heap_alloc_new w7 _))
    have B8:=yH (show Below w7.heap.size w7 ((w7.alloc (.cells zR 64)).setRow w7.heap.size (recL V (r:Int) (d:Int) (mkId x) (.slice u z cr)).toArray)from below_setRow ((yB _ _).alloc (yR _) _) (yR _) _)
    generalize (w7.alloc (.cells zR 64)).setRow w7.heap.size (recL V (r:Int) (d:Int) (mkId x) (.slice u z cr)).toArray=w8 at*
    have bL:=yH bu
    clear a2 aO bu
    have bg:wr.heap.size≤w7.heap.size:=Nat.le_trans B5.out.size an.out.size
    have ag:w.heap.size≤wr.heap.size:=Z.out.size
    have bw:=yH (At.offB aL.out (aIE an.out) (fun k' h'=>by have h':k'=o:=h';omega))
    have bz:=yH (At.below bw.out B8.out)
    have t:=yH (aK.out.below B8.out)
    have bE:=yH (ba.out.below B8.out)
    have bF:=yH (show KeptB w.heap.size o w w8 from((Z.out.trans (KeptB.of_below (B5.out.mono ag))).trans (an.out.mono (Nat.le_trans ag B5.out.size))).trans (KeptB.of_below (B8.out.mono (Nat.le_trans ag bg))))
    have ab:=yH (show KeptF (One o) wr w8 from((KeptF.of_below (F:=One o) B5.out).trans (aIE an.out) (fun _ _ h=>h)).trans (KeptF.of_below (F:=One o) B8.out) (fun _ _ h=>h))
    have bK:w7.heap.size<w8.heap.size:=R8.out.lt
    have aZ:=yH (rec_range R8.out)
    have bH:w8.cell? ⟨w7.heap.size,19,none⟩=some (.slice u z cr):=R8.out.cell rfl
    have c1:w8.cell? ⟨w7.heap.size,1,none⟩=some (.int .u64 (r:Int)):=R8.out.cell rfl
    have c2:w8.cell? ⟨w7.heap.size,2,none⟩=some (.int .u64 (d:Int)):=R8.out.cell rfl
    have ae:=yH (aEW (p:=p) (m:=m) u L z cr (r:Int) (d:Int) (mkId x) w8 bz.out H.out.img.inv t.out ar.out (by omega) H.out.img.len (by rw[H.out.most];decide) (aCX (by omega)) (by omega) (by omega) (H.out.img.hg.nb 9 (by omega)))
    unfold Appended at ae
    have aD:=yH (aHA H.out bB t.out.1 (r:Int) (d:Int) (mkId x) (by omega) (by omega) (aCX (by omega)))
    have E:=yH (show(Mk.acode m L (r:Int) (d:Int) (mkId x)=0→Reach (Mk.after m L (r:Int) (d:Int) (mkId x)) (rs++ [(L,(r:Int),(d:Int),mkId x)])∧(Mk.after m L (r:Int) (d:Int) (mkId x)).h.N 9=m.h.N 9+1∧V=m.h.N 9+1)∧(Mk.acode m L (r:Int) (d:Int) (mkId x)≠0→Mk.after m L (r:Int) (d:Int) (mkId x)=m)from
     ⟨fun R=>⟨Reach.step X.out L t.out.1 (r:Int) (d:Int) (mkId x) (by omega) (by omega) (aCX (by omega)) R,(aFB R).1,by
       have h9:=(aFB R).2
       have bV:=H.out.img.hg.nb 9 (by omega)
       have hw:=bL.out
       rw[IntKind.wrap_u64]at hw
       omega⟩,fun R=>if_neg R⟩)
    have a7:=yH ar.out
    have ax:=yH (show ∀b off,u=some ⟨b,off,none⟩→0<z→wr.heap.size≤b∧b<w8.heap.size from fun b off e hn=>by
     have h5:=a5.out b off e hn
     have h6:=B5.out.size
     obtain⟨b2,bP,e2,h7,_⟩:=t.out.2 0 (by rw[ar.out];exact hn)
     rw[e]at e2
     injection e2 with e2
     injection e2 with e2
     subst e2
     exact⟨by omega,h7⟩)
    have aN:=yH t.out
    generalize Mk.after m L (r:Int) (d:Int) (mkId x)=m9 at*
    generalize Mk.acode m L (r:Int) (d:Int) (mkId x)=cd at*
    clear aL Q5 ba an bw aK ar t Z bJ B5
    generalize aU:w7.heap.size=s7 at*
    clear aU B8
    go_upto_region 7 with(first
     |((with_reducible apply aAb 41);refine wpList_load_mid rfl 61 (.tmp 40) rfl s7 3 rfl (idJ (mkId x)) _ aZ.out Tryz.underlying61 rfl (aBl _) ?_)
     |(go_at_call 27;(refine ae.out.mono ?_);rintro e w9 ⟨rfl,p9,bi,bh⟩;have aM:=yH bi;have q:=yH bh;clear bi bh)
     |fail)
    clear bH c1 c2 aZ ae
    have M:=At.lt D.out
    have bc:=yH (show Below B w8 w9 from q.out.base (by have:=(M g (.inl rfl));omega) (fun k' h'=>(M k' h').1))
    have bn:=yH (show KeptB w.heap.size o w w9 from bF.out.trans (KeptB.of_below (bc.out.mono aa)))
    have aX:=yH (show OwnE 64 20 w9 B A n c xs from Mf.OwnE.keptF l.out.own (((ab.out.mono (G:=fun k'=>k'=o∨p.foot g k') (fun i h=> .inl h)).trans q.out.kept (fun _ _ h=> .inr h))) (fun k' hk' h=>by
     rcases h with h|h
     ·have:=(OwnE.ltB l.out.own k' hk').1;omega
     ·exact aF.out k' hk' h))
    have ad:=yH (show ∀k',ownB A=some k'→ ¬p9.foot g k' from fun k' hk' h=>by
     rcases q.out.foot k' h with I|I
     ·exact aF.out k' hk' I
     ·have:=(OwnE.ltB l.out.own k' hk').2;omega)
    have bQ:wr.heap.size≤w8.heap.size:=ab.out.size
    have aj:=yH (show RowsR w9 o (p9.foot g) A xs b0 rs from af.out.step ((ab.out.mono (G:=fun k'=>k'=o∨p.foot g k') (fun i h=> .inl h)).trans q.out.kept (fun _ _ h=> .inr h)) (fun b _ h=>h.elim .inl (fun h=> .inr (.inl h))) (fun b hb hf=>(q.out.foot b hf).elim id (fun h=>by omega)) (fun b _ h=>h))
    have bv:=yH (show Prs w9 u L from by
     rcases Nat.eq_zero_or_pos z with R|R
     ·rw[List.eq_nil_of_length_eq_zero (show L.length=0 by have:=a7.out;omega)]
      exact Prs.nil _ _
     ·exact aN.out.keptB q.out.kept.size fun b off e hb=>q.out.kept.block b hb fun hf=>by
       have I:=(M b hf).2
       have h2:=(ax.out b off e R).1
       omega)
    have bp:=yH (show ∀b off,u=some ⟨b,off,none⟩→0<z→b<w9.heap.size∧b≠o∧ ¬p9.foot g b∧ownB A≠some b from fun b off e hn=>by
     obtain⟨I,h2⟩:=ax.out b off e hn
     have h3:=q.out.kept.size
     refine⟨by omega,by omega,fun hf=>?_,fun ha=>?_⟩
     ·rcases q.out.foot b hf with h4|h4
      ·have:=(M b h4).2;omega
      ·omega
     ·have:=(OwnE.ltB l.out.own b ha).2;omega)
    by_cases hz:cd=0
    ·have d3:(cd !=0)=false:=by simp[hz]
     have bW:(cd==0)=true:=by simp[hz]
     have bC:=yH (show Blk w9 s7 (recL V (r:Int) (d:Int) (mkId x) (.slice u z cr)) 64 from(q.out.kept.block s7 bK (fun hf=>by have:=(M s7 hf).2;omega)).trans R8.out)
     have aG:=yH (show Rws (w9.alloc (.cells (recL V (r:Int) (d:Int) (mkId x) (.slice u z cr)).toArray 64)) B A n c xs from⟨OwnE.alloc aX.out _,l.out.nil,l.out.u8⟩)
     have ah:=yH (At.below aM.out ((yB w9.heap.size w9).alloc (yR _) (.cells (recL V (r:Int) (d:Int) (mkId x) (.slice u z cr)).toArray 64)))
     have bX:xs.length=n*20:=OwnE.len l.out.own
     have bI:=yH (aIF V (r:Int) (d:Int) (mkId x) u z cr)
     go_wp2_with(first
      |((with_reducible apply aAb 48);refine wpList_load_row rfl 64 (.tmp 9) rfl s7 rfl 64 (recL V (r:Int) (d:Int) (mkId x) (.slice u z cr)).toArray (0,0) _ bC.out Tryz.underlying64 rfl (aAm _ _ _ _ _) ?_)
      |(at_builtin;refine wpList_append_new aOf rfl (.tmp 47) (.tmp 49) rfl B A n c xs rfl aG.out.own ⟨w9.heap.size,0,none⟩ 1 1 (recL V (r:Int) (d:Int) (mkId x) (.slice u z cr)) rfl rfl (Blk.news (Blk.new w9 _ _)) bI.out (by omega) (by omega) (by unfold maxLen;omega) ?_;intro A' c' w10 aw aB ap;have aA:=yH aw;have am:=yH aB;have ak:=yH ap;clear aw aB ap)
      |fail)
     have a9:=yH (At.rows ah.out aG.out ad.out aA.out am.out ak.out)
     have aI:=yH (show Below B w9 w10 from((yB B w9).alloc (by have:=(At.lt aM.out g (.inl rfl));omega) (.cells (recL V (r:Int) (d:Int) (mkId x) (.slice u z cr)).toArray 64)).trans (below_grown am.out (by have:=(At.lt ah.out g (.inl rfl));omega) (fun k' hk'=>(OwnE.ltB l.out.own k' hk').1)))
     have aq:=yH (show RowsR w10 o (p9.foot g) A' (xs++recL V (r:Int) (d:Int) (mkId x) (.slice u z cr)) b0 (rs++ [(L,(r:Int),(d:Int),mkId x)])from
      (aj.out.snoc (L,(r:Int),(d:Int),mkId x) (cr:=cr) (by have I:=(E.out.1 hz).2.2;have h2:=ai.out;have h3:=ac.out;omega) a7.out bN bv.out bp.out).step (((KeptF.refl (fun k=>ownB A=some k) w9).alloc _).grown am.out (fun k h _=>h.symm▸rfl)) (fun b _ h=> .inr (.inr h)) (fun b _ h=>h) (fun b hb h=>by
        rcases ak.out with I|⟨I,_⟩
        ·rw[←I];exact h
        ·rw[I]at h
         injection h with h
         simp only[World.alloc,Array.size_push]at h
         omega))
     go_roundw
     case rel=>
      refine⟨A',n+1,c',rfl,by omega,yH ⟨⟨p9,m9,rs++ [(L,(r:Int),(d:Int),mkId x)],_,b0,a9.out,aD.out.1 hz,fun k' hk' hf=>?_,⟨aA.out,fun h=>by omega,fun _=>?_⟩,(E.out.1 hz).1,by rw[yA,ac.out];rfl,by have I:=(E.out.1 hz).2.1;have h2:=ai.out;omega,aq.out⟩,⟨k7,aHz bE.out (bc.out.trans aI.out) (by omega) (fun R b off e=>yL (bM.out R b off e) aa)⟩,bn.out.trans (KeptB.of_below (aI.out.mono aa))⟩⟩
      ·rcases ak.out with I|⟨I,_⟩
       ·exact ad.out k' (I▸hk') hf
       ·rw[I]at hk'
        have h3:=(At.lt ah.out k' hf).2
        rw[←Option.some.inj hk']at h3
        exact Nat.lt_irrefl _ h3
      ·rcases Nat.eq_zero_or_pos n with R|R
       ·rw[List.eq_nil_of_length_eq_zero (show xs.length=0 by omega)]
        exact⟨_,rfl⟩
       ·obtain⟨v,hv⟩:=l.out.u8 R
        refine⟨v,?_⟩
        rw[List.getElem?_append_left (by omega)]
        exact hv
     case measure=>simp[slen];omega
    ·have d3:(cd !=0)=true:=by simpa using hz
     go_wp2
     go_ret2
     exact⟨g,A,n,c,B,p9,m9,rs,xs,b0,rfl,aa,aM.out,aD.out.2 hz,bn.out,⟨aX.out,l.out.nil,l.out.u8⟩,by rw[E.out.2 hz];exact X.out,ac.out,by rw[E.out.2 hz];exact ai.out,aj.out⟩
   ·have d2:decide (k<len)=false:=by simpa using hk
    rw[d2]at al
    go_wp2_with(first
     |(go_at_call 24;(refine al.out.mono ?_);rintro e w5 ⟨rfl,ao⟩;have B5:=yH ao;clear ao)
     |fail)
    go_ret2
    exact⟨g,A,n,c,B,p,m,rs,xs,b0,rfl,aa,At.below D.out B5.out,H.out,Z.out.trans (KeptB.of_below (B5.out.mono Z.out.size)),⟨l.out.own.kept B5.out (yR _),l.out.nil,l.out.u8⟩,X.out,ac.out,ai.out,af.out.step (KeptF.of_below (F:=fun _=>False) B5.out) (fun _ _ h=>h.elim) (fun _ _ h=>h) (fun _ _ h=>h)⟩
  ·have d1:decide ((n:Int)<(mo:Int))=false:=by simp;omega
   go_wp2_with fail
   go_ret2
   exact⟨g,A,n,c,B,p,m,rs,xs,b0,rfl,aa,D.out,H.out,Z.out,l.out,X.out,ac.out,ai.out,af.out⟩
theorem aKW (i:Nat)(a:Option Addr)(len b:Nat)(f:Nat→Int)(k:Nat)(d:Nat)(w:World)(h:SeqIn w i a len b f k)(j:d≤1000):
 Calls Tryz.prog 21 #[.pointer (some ⟨i,0,none⟩),.int .i64 (d:Int)] w (MadeJ i d w):=by
 refine(aEX i a len b f k d w h j).mono ?_
 rintro e w' ⟨g,A,n,c,B,p,m,rs,xs,b0,r,l,o,q,s,_⟩
 exact⟨g,A,n,c,B,p,m,r,l,o,q,s⟩
def ImagedN (mo:Nat)(w:World)(e:Ending)(w':World):Prop:= ∃(A:Option Addr) (c:Nat) (m:Mk) (n:Nat),e= .returned (.slice A m.b.length c)∧GoodN m n mo∧Own8.Own w' w.heap.size A m.b.length c (imgB m)∧Below w.heap.size w w'
theorem aOY (a:Option Addr)(len d:Nat)(f:Nat→Int)(r:Nat)(w:World)(x:InInts .i64 w a len f)(H:len≤9223372036854775807)(y:r≤1000):
 Calls Tryz.prog 11 #[.slice a len d,.int .i64 (r:Int)] w (ImagedN r w):=by
 have F:=yH (show SeqIn (w.alloc (.cells #[.slice a len d,.int .i64 0] 42)) w.heap.size a len d f 0 from⟨Blk.new w [.slice a len d,.int .i64 0] _,x.below ((yB _ _).alloc (yR _) _),fun h0 b off e=>by obtain⟨M,D,o,N,_⟩:=x 0 h0;rw[e]at o;injection o with o;injection o with o;omega,Nat.zero_le _,H⟩)
 have C:=yH ((yB w.heap.size w).alloc (yR _) (.cells #[.slice a len d,.int .i64 0] 42))
 have t:=yH (aKW w.heap.size a len d f 0 r _ F.out y)
 unfold MadeJ at t
 clear x
 go_enter Tryz.func11,Tryz.ntmps11
 go_upto_region 2 with(first
  |(go_at_call 21;(refine t.out.mono ?_);rintro e w2 ⟨g,A,n,c,B,p,m,rfl,Y,k,i,E⟩;have G:=yH k;have s:=yH i;have J:=yH E;clear k i E)
  |fail)
 obtain⟨V,X,R⟩:=s.out.img.lens
 have l:=yH (aD5 B g p.bb p.cb p.S m 1 w2 G.out.st (by omega) (aHw s.out.img) (by have:=s.out.img.inv.dep;omega))
 unfold Owned at l
 have z:=yH (C.out.trans (KeptB.below (J.out.mono C.out.size) (yR _)))
 clear F t
 go_wp2_with(first
  |(go_at_call 22;(refine l.out.mono ?_);rintro e w3 ⟨L,I,rfl,j,q⟩;have v:=yH j;have u:=yH q;clear j q)
  |fail)
 go_ret
 exact⟨L,I,m,n,rfl,s.out,Own.base v.out z.out.size,z.out.trans (u.out.mono z.out.size)⟩
end Nu
end Go.Proofs.YteaikbodkgjkdaaGreat
