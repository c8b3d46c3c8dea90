/-
  Texts beneath the proof.
-/
import Derived.Test.YtiddkgcafpaekaaGreatJq27
import Derived.Test.YtiddkgcafpaekaaGreatJq28
set_option linter.unusedVariables false
set_option linter.unusedSimpArgs false
set_option maxRecDepth 100000
set_option maxHeartbeats 8000000
open Go.ChangeShapes Go.WideShapes Go.ChangeAt Go.RowKit
namespace Go.Proofs.YtiddkgcafpaekaaGreat
namespace Nu
open Bytes8 Blk8 Own8 OwnA OwnE Rows2 Ob Od Ga Ma Kf Mb Mc Md Mf Mg Mh Mi Fa Fb Fc Dc Gb Na Nb Nc Nd Nf Nh Nk Nl Nm No Pr8 Pl8 Ni Np Nq Nr Ns Nt Seq8
theorem recElt:Elt 74 57 20 64 (.agg zR):=⟨Tryz.underlying57,by kernel_rfl,rfl,by decide⟩
structure Good (m:Mk):Prop where
 img:Img m
 most:m.C.most=32768
inductive Reach:Mk→List (List PR×Int×Int×(Nat→Int))→Prop
 |mk {C:Cf} (h:CfOk C) (after:Int) (ha:0≤after∧after≤18446744073709551615):Reach (Mk.new C after) []
 |step {m:Mk} {rs:List (List PR×Int×Int×(Nat→Int))} (h:Reach m rs) (L:List PR) (hP:AllP L) (real mono:Int) (K:Nat→Int) (hr:0≤real∧real≤18446744073709551615) (hm:0≤mono∧mono≤18446744073709551615) (hK:IdOk K) (h0:Mk.acode m L real mono K=0):Reach (Mk.after m L real mono K) (rs++ [(L,real,mono,K)])
structure GoodN (m:Mk)(n mo:Nat):Prop where
 img:Img m
 most:m.C.most=32768
 cnt:m.h.N 8=(n:Int)
 le:n≤mo
 rch: ∃rs,Reach m rs∧rs.length=n
theorem GoodN.good {m:Mk}{n mo:Nat}(g:GoodN m n mo):Good m:=⟨g.img,g.most⟩
theorem new_good {C:Cf}(h:CfOk C)(after:Int)(ha:0≤after∧after≤18446744073709551615):Good (Mk.new C after):=by
 have hds:=h.ds
 have hfs:=h.fs
 have hl:(Mk.new C after).b.length=304+16*(C.ds+C.fs):=by
  show(z272++tabB 4 C.ds++tabB 5 C.fs).length=_
  rw[List.length_append,List.length_append,tabB_len,tabB_len]
  unfold z272
  rw[List.length_replicate]
  omega
 have hN: ∀i,(Mk.new C after).h.N i=if i=9 then after else if i=7 then 2 else if i=6 then 288+16*(C.ds:Int)else if i=5 then 16*(C.fs:Int)else if i=4 then 304+16*(C.ds:Int)else if i=3 then 16*(C.ds:Int)else if i=2 then 288 else if i=0 then 272 else 0:=fun i=>rfl
 have hI:Inv (Mk.new C after):=
  {F:=h.F,ds:=hds,fs:=hfs
   n2:=rfl
   n4:=by
    show _=((Mk.tf (Mk.new C after):Nat):Int)
    rw[hN 4]
    show 304+16*(C.ds:Int)=((304+16*C.ds:Nat):Int)
    omega
   len:=by show 304+16*(C.ds+C.fs)≤_;omega
   l8:=by omega
   dat:=fun k hk=>by cases hk
   fld:=fun k hk=>by cases hk
   mn:=⟨0,rfl,Chain.nil _,Nat.zero_le _⟩
   n7:=by rw[hN 7];show 0≤(2:Int)∧(2:Int)≤_;omega
   n15:=by rw[hN 15];show 0≤(0:Int)∧(0:Int)≤_;omega
   n16:=by rw[hN 16];show 0≤(0:Int)∧(0:Int)≤_;omega
   n18:=by rw[hN 18];show 0≤(0:Int)∧(0:Int)≤_;omega
   n19:=by rw[hN 19];show 0≤(0:Int)∧(0:Int)≤_;omega
   dep:=Nat.zero_le _
   dn:=Nat.zero_le _
   fn:=Nat.zero_le _}
 refine⟨⟨hI,⟨rfl,rfl,rfl,rfl,?_,fun i=>?_,fun i hi=>?_,⟨Int.le_refl _,by show(0:Int)≤4294967295;decide⟩,⟨Int.le_refl _,by show(0:Int)≤4294967295;decide⟩,⟨Int.le_refl _,by show(0:Int)≤18446744073709551615;decide⟩⟩,by omega⟩,h.most⟩
 ·show(if C.keyed then(4:Int)else 0)=0∨(if C.keyed then(4:Int)else 0)=4
  cases C.keyed
  ·exact .inl rfl
  ·exact .inr rfl
 ·show 0≤hdI3 C i∧hdI3 C i<256
  unfold hdI3
  repeat' split
  ·exact h.F _
  ·exact h.M _
  ·decide
  ·exact h.S _
 ·rw[hN i]
  repeat' split
  all_goals omega
theorem run_append_new {E S:TypeId}{size bytes:Nat}{z:Value}(he:Elt E S size bytes z)(w:World)(ty:TypeId)(base:Nat)(A:Option Addr)(n c:Nat)(xs:List Value)(ho:OwnE E size w base A n c xs)(ad:Addr)(m c2:Nat)(news:List Value)(hl:news.length=m*size)
 (hnews: ∀j u,news[j]? =some u→w.cell? (ad.add j)=some u)(h1: ∀u∈news,u.oneCell'=true)(h63:n+m≤4611686018427387904)(hbytes:(n+m)*bytes≤140737488355328)(hml:n+m≤maxLen):
 ∃A' c' w',(Builtin.append_ #[S,S] ty #[.slice A n c,.slice (some ad) m c2]).run Tryz.prog w= .ok (.slice A' (n+m) c') w'∧OwnE E size w' base A' (n+m) c' (xs++news)∧w.grownBy w' (ownB A)∧(ownB A'=ownB A∨(ownB A'=some w.heap.size∧w.grownBy w' none)):=by
 obtain⟨A',c',w',hr,h2,h3,h4⟩:=run_append_elt_at he w ty base A n c xs ho ad m c2 news hl hnews h1 h63 hbytes hml
 refine⟨A',c',w',hr,h2,h3,?_⟩
 obtain⟨i,hi,hzz⟩:=Option.map_eq_some_iff.1 he.info
 simp only[Prod.mk.injEq]at hzz
 obtain⟨hz,hs,hby⟩:=hzz
 rcases ho.2.2 with⟨e0,h0⟩|⟨g,cap,cur,hv,hbg,hg,hnc,hcm,hcs,htake⟩
 ·injection e0 with e1 e2 e3
  subst e1
  rcases h4 with h4|h4
  ·exact .inl h4
  ·exact .inr ⟨h4,h3⟩
 ·injection hv with e1 e2 e3
  subst e1 e3
  by_cases hroom:n+m≤c
  ·have hfit:n*i.size+news.length≤cur.size:=by rw[hl,hcs,hs,←Nat.add_mul];exact Nat.mul_le_mul_right _ hroom
   have hr2:=run_append_room (P:=Tryz.prog) w S ty E i he.under hi g n c cur hg ad m c2 news (by rw[hs];exact hl) hnews h1 hroom hfit
   rw[hr2]at hr
   injection hr with hr3 _
   injection hr3 with hr4 _ _
   exact .inl (by rw[←hr4])
  ·have holds: ∀j u,xs[j]? =some u→w.cell? ((⟨g,0,none⟩:Addr).add j)=some u:=ho.2.cells (g:=g) rfl
   have hr2:=run_append_grow (P:=Tryz.prog) w S ty E i z he.under hi hz ⟨g,0,none⟩ n c xs (by rw[hs];exact ho.2.1) holds ad m c2 news (by rw[hs];exact hl) hnews (by omega) (by omega) (growslice_fits (by omega) (by rw[hby];exact hbytes))
   rw[hr2]at hr
   injection hr with hr3 hr4
   injection hr3 with hr5 _ _
   refine .inr ⟨by rw[←hr5];rfl,?_⟩
   rw[←hr4]
   have k:=World.grownBy_alloc w.drew (.cells (xs.toArray++news.toArray++Builtin.zeroCells z.cells (grownCap w (n+m) c E-(n+m))) E) none
   exact⟨k.os,k.tape,k.output,k.size,k.block⟩
theorem wpList_append_new {E S:TypeId}{size bytes:Nat}{z:Value}(he:Elt E S size bytes z){w:World}{ops:Array Oper}{rest:List Oper}{o:Oper}{a:Act}{Q:Exit→Act→World→Prop}(hgd:o.guard=none)(s x:Operand)
 (hop:o.op= .call {callee:= .builtin .append,args:= #[s,x],argTypes:= #[S,S]})
 (base:Nat)(A:Option Addr)(n c:Nat)(xs:List Value)(hs:a.eval s= .slice A n c)(ho:OwnE E size w base A n c xs)(ad:Addr)(m c2:Nat)(news:List Value)(hx:a.eval x= .slice (some ad) m c2)(hl:news.length=m*size)
 (hnews: ∀j u,news[j]? =some u→w.cell? (ad.add j)=some u)(h1: ∀u∈news,u.oneCell'=true)(h63:n+m≤4611686018427387904)(hbytes:(n+m)*bytes≤140737488355328)(hml:n+m≤maxLen)
 (h: ∀A' c' w',OwnE E size w' base A' (n+m) c' (xs++news)→w.grownBy w' (ownB A)→(ownB A'=ownB A∨(ownB A'=some w.heap.size∧w.grownBy w' none))→wpList Tryz.prog ops Q rest (a.put o.dst (.slice A' (n+m) c')) w'):wpList Tryz.prog ops Q (o::rest) a w:=
 wpList_plain hgd fun _ hK=>by
  obtain⟨A',c',w',hr,h2,h3,h4⟩:=run_append_new he w o.type base A n c xs ho ad m c2 news hl hnews h1 h63 hbytes hml
  unfold Oper.wp execOp
  simp only[hop,resolve,invoke,builtin,Sem.run_bind,Sem.run_pure,Result.andThen_ok,List.map_toArray,List.map_cons,List.map_nil,hs,hx,hr]
  exact hK _ _ (h A' c' w' h2 h3 h4)
structure Rws (w:World)(B0:Nat)(A:Option Addr)(n c:Nat)(xs:List Value):Prop where
 own:OwnE 74 20 w B0 A n c xs
 nil:n=0→A=none
 u8:0<n→ ∃v,xs[3]? =some (.int .u8 v)
theorem arr_rows {w w':World}{B0:Nat}{A:Option Addr}{n c:Nat}{xs:List Value}{Ft:Nat→Prop}{v:Value}{l:List Nat}(ha:Arr w Ft v l)(h:Rws w B0 A n c xs){A':Option Addr}{n' c':Nat}{news:List Value}(ho:OwnE 74 20 w' B0 A' n' c' (xs++news))(hg:w.grownBy w' (ownB A))(hA:ownB A'=ownB A):Arr w' Ft v l:=by
 obtain⟨A2,n2,c2,rfl,hl,hc⟩:=ha
 refine⟨A2,n2,c2,rfl,hl,fun i hi=>?_⟩
 obtain⟨b,e,hb,hf,hcell⟩:=hc i hi
 refine⟨b,e,yL hb hg.size,hf,?_⟩
 by_cases hbA:ownB A=some b
 ·have hn:0<n:=by
   rcases Nat.eq_zero_or_pos n with h0|h0
   ·rw[h.nil h0]at hbA;cases hbA
   ·exact h0
  have hlen:=OwnE.len h.own
  have hlen':xs.length=n*20:=hlen
  have hone: ∀(j:Nat) (hj:j<xs.length),w.cell? ⟨b,j,none⟩=xs[j]? :=fun j hj=>by
   obtain⟨b2,e2,_,_,h2⟩:=OwnE.cell h.own (i:=j) (by omega)
   rw[e2]at hbA
   have hbb:b2=b:=by simpa [ownB]using hbA
   subst hbb
   exact h2
  have h3:i<xs.length:=by
   rcases Nat.lt_or_ge i xs.length with h3|h3
   ·exact h3
   ·exfalso
    obtain⟨b3,e3,_,_,hc3⟩:=hc 3 (by omega)
    rw[e]at e3
    injection e3 with e3
    injection e3 with e3
    subst e3
    rw[hone 3 (by omega)]at hc3
    obtain⟨v,hv⟩:=h.u8 hn
    rw[hv]at hc3
    cases hc3
  obtain⟨b4,e4,_,_,h4⟩:=OwnE.cell ho (i:=i) (by rw[List.length_append];omega)
  rw[hA.symm.trans (by rw[e4])]at hbA
  have hbb:b4=b:=by simpa [ownB]using hbA
  subst hbb
  rw[h4,List.getElem?_append_left h3,←hone i h3]
  exact hcell
 ·exact(World.cell?_of_block (a:=⟨b,i,none⟩) (hg.block b hb (fun e=>hbA e.symm))).trans hcell
theorem At.rows {w w':World}{B g:Nat}{p:Pl}{m:Mk}(h:At w B g p m){B0:Nat}{A:Option Addr}{n c:Nat}{xs:List Value}(hr:Rws w B0 A n c xs)(off: ∀k,ownB A=some k→ ¬p.foot g k)
 {A':Option Addr}{n' c':Nat}{news:List Value}(ho:OwnE 74 20 w' B0 A' n' c' (xs++news))(hg:w.grownBy w' (ownB A))(hA:ownB A'=ownB A∨(ownB A'=some w.heap.size∧w.grownBy w' none)):At w' B g p m:=by
 rcases hA with hA|⟨_,hn⟩
 ·have hk:=KeptF.grow _ hg
  have off2: ∀k,p.foot g k→ ¬(ownB A=some k):=fun k hf e=>off k e hf
  exact
   {st:=⟨Kf.Blk.keptF h.st.st hk (off2 _ (.inl rfl)),Kf.Own.keptF h.st.own hk (fun k hk'=>off2 k (.inr (.inl (by injection hk' with e;exact e.symm)))),h.st.ne⟩
    dr:=Mf.OwnE.keptF h.dr hk (fun k e=>off2 k (.inr (.inr (.inl e))))
    fr:=Mf.OwnE.keptF h.fr hk (fun k e=>off2 k (.inr (.inr (.inr e))))
    dm:=h.dm,fm:=h.fm
    da:=fun q hq=>arr_rows (h.da q hq) hr ho hg hA
    ma:=arr_rows h.ma hr ho hg hA
    dg:=h.dg,fg:=h.fg,df:=h.df,gB:=h.gB,fo:=h.fo}
 ·exact h.below ⟨hn.os,hn.tape,hn.output,hn.size,fun k hk=>hn.block k hk (by simp)⟩
theorem kf_of_kb {w w':World}{g:Nat}(h:KeptB w.heap.size g w w'):KeptF (One g) w w':=⟨h.os,h.tape,h.output,h.size,fun k hk hne=>h.block k hk hne⟩
structure RowsR (wr:World)(gq:Nat)(F:Nat→Prop)(A:Option Addr)(xs:List Value)(b0:Int)(rs:List (List PR×Int×Int×(Nat→Int))):Prop where
 len:xs.length=rs.length*20
 at_: ∀i (h:i<rs.length),∃(Ar:Option Addr) (nr cr:Nat),(xs.drop (20*i)).take 20=recL (b0+i+1) rs[i].2.1 rs[i].2.2.1 rs[i].2.2.2 (.slice Ar nr cr)∧rs[i].1.length=nr∧nr≤16∧Prs wr Ar rs[i].1∧ ∀b off,Ar=some ⟨b,off,none⟩→0<nr→b<wr.heap.size∧b≠gq∧ ¬F b∧ownB A≠some b
theorem RowsR.step {wr w':World}{gq:Nat}{F F':Nat→Prop}{A A':Option Addr}{xs:List Value}{b0:Int}{rs:List (List PR×Int×Int×(Nat→Int))}(h:RowsR wr gq F A xs b0 rs){G:Nat→Prop}(hk:KeptF G wr w')(hG: ∀b,b<wr.heap.size→G b→b=gq∨F b∨ownB A=some b)
 (hF: ∀b,b<wr.heap.size→F' b→F b)(hA: ∀b,b<wr.heap.size→ownB A'=some b→ownB A=some b):RowsR w' gq F' A' xs b0 rs:=
 ⟨h.len,fun i hi=>by
   obtain⟨Ar,nr,cr,e1,e2,e3,e4,e5⟩:=h.at_ i hi
   refine⟨Ar,nr,cr,e1,e2,e3,?_,fun b off e hn=>?_⟩
   ·rcases Nat.eq_zero_or_pos nr with h0|h0
    ·rw[List.eq_nil_of_length_eq_zero (show rs[i].1.length=0 by omega)]
     exact Prs.nil _ _
    ·exact e4.keptB hk.size fun b off e hb=>hk.block b hb fun hg=>by
      obtain⟨g1,g2,g3,g4⟩:=e5 b off e h0
      rcases hG b hb hg with h|h|h
      ·exact g2 h
      ·exact g3 h
      ·exact g4 h
   ·obtain⟨g1,g2,g3,g4⟩:=e5 b off e hn
    exact⟨yL g1 hk.size,g2,fun hf=>g3 (hF b g1 hf),fun ha=>g4 (hA b g1 ha)⟩⟩
theorem RowsR.snoc {wr:World}{gq:Nat}{F:Nat→Prop}{A:Option Addr}{xs:List Value}{b0:Int}{rs:List (List PR×Int×Int×(Nat→Int))}(h:RowsR wr gq F A xs b0 rs)(r:List PR×Int×Int×(Nat→Int)){Ar:Option Addr}{nr cr:Nat}{sq:Int}(hs:sq=b0+rs.length+1)(hl:r.1.length=nr)(h16:nr≤16)(hp:Prs wr Ar r.1)
 (ho: ∀b off,Ar=some ⟨b,off,none⟩→0<nr→b<wr.heap.size∧b≠gq∧ ¬F b∧ownB A≠some b):RowsR wr gq F A (xs++recL sq r.2.1 r.2.2.1 r.2.2.2 (.slice Ar nr cr)) b0 (rs++ [r]):=by
 have h20:(recL sq r.2.1 r.2.2.1 r.2.2.2 (.slice Ar nr cr)).length=20:=rfl
 have hl0:=h.len
 refine⟨by rw[List.length_append,List.length_append,h20,List.length_singleton,h.len];omega,fun i hi=>?_⟩
 by_cases hlast:i<rs.length
 ·obtain⟨Ar2,nr2,cr2,e1,e2⟩:=h.at_ i hlast
  rw[List.getElem_append_left hlast]
  refine⟨Ar2,nr2,cr2,?_,e2⟩
  rw[List.drop_append_of_le_length (by omega),List.take_append_of_le_length (by rw[List.length_drop];omega)]
  exact e1
 ·have hi3:i=rs.length:=by rw[List.length_append,List.length_singleton]at hi;omega
  subst hi3
  refine⟨Ar,nr,cr,?_,?_⟩
  ·rw[List.drop_left' (by omega),List.take_of_length_le (by rw[h20];exact yR _)]
   simp[hs]
  ·simpa using⟨hl,h16,hp,ho⟩
theorem after_n9 {m:Mk}{L:List PR}{real mono:Int}{K:Nat→Int}(h0:Mk.acode m L real mono K=0):(Mk.after m L real mono K).h.N 9=m.h.N 9+1∧m.h.N 9≠18446744073709551615:=by
 refine⟨?_,fun h9=>?_⟩
 ·unfold Mk.after
  rw[if_pos h0]
  show(Mk.told _ _ _ _ _ _ _).h.N 9=_
  rw[told_N _ _ _ _ _ _ _ _ (by decide),if_neg (by decide),if_neg (by decide),if_pos rfl]
 ·unfold Mk.acode at h0
  by_cases h1:listE L=0
  ·rw[if_neg (by simpa using h1),if_pos h9]at h0
   cases h0
  ·rw[if_pos h1]at h0;exact absurd h0 h1
structure LM (wr:World)(B0 B g gq:Nat)(a:Option Addr)(len cap:Nat)(f:Nat→Int)(A:Option Addr)(n c:Nat)(w:World)(mo:Nat):Prop where
 jr: ∃p m rs xs b0,At wr B g p m∧GoodN m n mo∧(∀k,ownB A=some k→ ¬p.foot g k)∧Rws wr B A n c xs∧Reach m rs∧rs.length=n∧m.h.N 9=b0+(n:Int)∧RowsR wr gq (p.foot g) A xs b0 rs
 sq: ∃k,SeqIn wr gq a len cap f k
 kp:KeptB B0 gq w wr
def MadeJ (gq mo:Nat)(w:World)(e:Ending)(w':World):Prop:= ∃(g:Nat) (A:Option Addr) (n c B:Nat) (p:Pl) (m:Mk),e= .returned (.tuple #[.pointer (some ⟨g,0,none⟩),.slice A n c])∧w.heap.size≤B∧At w' B g p m∧GoodN m n mo∧KeptB w.heap.size gq w w'
def MadeR (gq mo:Nat)(w:World)(e:Ending)(w':World):Prop:= ∃(g:Nat) (A:Option Addr) (n c B:Nat) (p:Pl) (m:Mk) (rs:List (List PR×Int×Int×(Nat→Int))) (xs:List Value) (b0:Int),e= .returned (.tuple #[.pointer (some ⟨g,0,none⟩),.slice A n c])∧w.heap.size≤B∧At w' B g p m∧GoodN m n mo∧KeptB w.heap.size gq w w'∧Rws w' B A n c xs∧Reach m rs∧rs.length=n∧m.h.N 9=b0+(n:Int)∧RowsR w' gq (p.foot g) A xs b0 rs
theorem rec_range {w:World}{g:Nat}{T:TypeId}{s r m:Int}{K:Nat→Int}{F:Value}(h:Blk w g (recL s r m K F) T):w.rangeAt g 3 (idJ K):=fun j v hj=>by
 have hl:j<16:=(List.getElem?_eq_some_iff.1 hj).1
 refine h.cell (i:=3+j) ?_
 rw[idJ_get K j hl]at hj
 rcases j with _|_|_|_|_|_|_|_|_|_|_|_|_|_|_|_|j
 all_goals first|exact hj|omega
theorem after_good {m:Mk}(g:Good m){L:List PR}(hP:AllP L)(real mono:Int)(K:Nat→Int)(hr:0≤real∧real≤18446744073709551615)(hm:0≤mono∧mono≤18446744073709551615)(hK:IdOk K):Good (Mk.after m L real mono K):=by
 unfold Mk.after
 by_cases h0:Mk.acode m L real mono K=0
 ·rw[if_pos h0]
  unfold Mk.acode at h0
  by_cases h1:listE L=0
  ·rw[if_neg (by simpa using h1)]at h0
   by_cases h2:m.h.N 9=18446744073709551615
   ·rw[if_pos h2]at h0;cases h0
   ·rw[if_neg h2]at h0
    by_cases h3:m.C.most<(Mk.grown m (listL L) real mono K).b.length
    ·rw[if_pos h3]at h0;cases h0
    ·obtain⟨n16,hok⟩:=listL_ok h1
     obtain⟨e1,e2,e3,e4,e5⟩:=entered_good g.img.inv g.img.hg (listL L) (fun q hq=>by
      obtain⟨a1,a2⟩:=hok q hq
      have a3:=hP q a1
      have a4:=flaw_len a2
      exact⟨a3.1,a3.2.1,a4.1,a4.2⟩) n16 g.img.len real mono K hr hm hK h2
     exact⟨⟨e1,e2,by rw[e4];have:=g.most;omega⟩,by rw[e3];exact g.most⟩
  ·rw[if_pos h1]at h0;exact absurd h0 h1
 ·rw[if_neg h0];exact g
theorem entered_n8 {m:Mk}(h:Inv m)(g:HG m)(L:List PR)(hl: ∀q∈L,AllB q.1∧AllB q.2∧q.1.length≤64∧q.2.length≤256)(h16:L.length≤16)(hb:m.b.length≤32768)(real mono:Int)(K:Nat→Int)
 (hr:0≤real∧real≤18446744073709551615)(hm:0≤mono∧mono≤18446744073709551615)(hK:IdOk K)(h9:m.h.N 9≠18446744073709551615):
 (Mk.entered m L real mono K).h.N 8=m.h.N 8+1:=by
 have n9:=g.nb 9 (by omega)
 obtain⟨i1,i2,i3,i4,i5⟩:=inv_dataAll h L hl L.length (yR _)
 have gd:=hg_dataAll g h L hl h16 (by omega) L.length (yR _)
 rw[List.take_length]at i1 i2 i3 i4 i5 gd
 unfold Mk.entered Mk.grown
 dsimp only
 generalize hmd:Mk.dataAll m L=s at*
 obtain⟨md,who⟩:=s
 dsimp only at*
 obtain⟨n8,hn8,hch8,hn8b⟩:=i1.mn
 have hel:(Mk.eobj md who (L.map fun q=>pay q.1 q.2) (m.h.N 9+1) real mono K).length%8=0∧0<(Mk.eobj md who (L.map fun q=>pay q.1 q.2) (m.h.N 9+1) real mono K).length∧(Mk.eobj md who (L.map fun q=>pay q.1 q.2) (m.h.N 9+1) real mono K).length≤400∧64≤(Mk.eobj md who (L.map fun q=>pay q.1 q.2) (m.h.N 9+1) real mono K).length:=by
  have e:=eobj_len md who (L.map fun q=>pay q.1 q.2) (m.h.N 9+1) real mono K
  omega
 generalize Mk.eobj md who (L.map fun q=>pay q.1 q.2) (m.h.N 9+1) real mono K=eo at*
 obtain⟨e1,e2,e3,e4⟩:=hel
 have I2:=inv_object i1 eo e1 e2
 have G2:=hg_object gd eo (by omega)
 have hol:=object_len md eo
 have hC2:Chain (md.object eo).b.length (md.object eo).main n8:=hch8.mono (by omega)
 have hn2:(md.object eo).h.N 8=(n8:Int):=hn8
 have h304:=i1.len
 have e8:(m.h.N 8).toNat=n8:=by rw[←i5.n8,hn8];rfl
 rw[e8]
 obtain⟨g1,g2,g3,g4,g5,g6,g7⟩:=inv_linked I2 md.b.length n8 hn2 hC2 (by omega) (by omega)
 have G3:=hg_linked G2 I2 md.b.length n8 hC2 (by omega) (by omega)
 generalize Mk.linked (md.object eo) md.b.length n8=mL at*
 have hM0:InvM md.b.length 0 mL:=⟨g1,fun k' hk'=>by rw[g4]at hk';exact(i1.dat k' hk').2.2.2.2,by omega⟩
 have hw: ∀y∈who,y<mL.datas.length:=fun y hy=>by rw[g4];exact i3 y hy
 obtain⟨k1,k2,k3,k4,k5,k6,k7⟩:=inv_markAll hM0 md.b.length who hw (by omega) who.length (yR _)
 have G4:=hg_markAll G3 hM0 md.b.length who hw (by omega) (by omega) who.length (yR _)
 rw[List.take_length]at k1 k2 k3 k4 k5 k6 k7 G4
 show(Mk.told (Mk.markAll md.b.length mL who) _ _ _ _ _ _).h.N 8=_
 have hk:(Mk.markAll md.b.length mL who).h.N 8=m.h.N 8:=by rw[k7,g7];exact i5.n8
 rw[←hk]
 unfold Mk.told setN
 dsimp only
 repeat' split
 all_goals (simp_all (config:={decide:=true}))
theorem after_goodN {m:Mk}{n mo:Nat}(g:GoodN m n mo)(hlt:n<mo){L:List PR}(hP:AllP L)(real mono:Int)(K:Nat→Int)(hr:0≤real∧real≤18446744073709551615)(hm:0≤mono∧mono≤18446744073709551615)(hK:IdOk K):(Mk.acode m L real mono K=0→GoodN (Mk.after m L real mono K) (n+1) mo)∧(Mk.acode m L real mono K≠0→GoodN (Mk.after m L real mono K) n mo):=by
 refine⟨fun h0=>?_,fun h0=>?_⟩
 ·have ga:=after_good g.good hP real mono K hr hm hK
  obtain⟨rs,hrs,hrl⟩:=g.rch
  refine⟨ga.img,ga.most,?_,hlt,_,Reach.step hrs L hP real mono K hr hm hK h0,by rw[List.length_append,hrl];rfl⟩
  unfold Mk.after
  rw[if_pos h0]
  unfold Mk.acode at h0
  by_cases h1:listE L=0
  ·rw[if_neg (by simpa using h1)]at h0
   by_cases h2:m.h.N 9=18446744073709551615
   ·rw[if_pos h2]at h0;cases h0
   ·obtain⟨n16,hok⟩:=listL_ok h1
    rw[entered_n8 g.img.inv g.img.hg (listL L) (fun q hq=>by
       obtain⟨a1,a2⟩:=hok q hq
       have a3:=hP q a1
       have a4:=flaw_len a2
       exact⟨a3.1,a3.2.1,a4.1,a4.2⟩) n16 g.img.len real mono K hr hm hK h2,g.cnt]
    rfl
  ·rw[if_pos h1]at h0;exact absurd h0 h1
 ·unfold Mk.after
  rw[if_neg h0]
  exact g
def slen:Value→Nat
 | .slice _ n _=>n
 |_=>0
theorem recL_one (s r m:Int)(K:Nat→Int)(A:Option Addr)(n c:Nat): ∀u∈recL s r m K (.slice A n c),u.oneCell'=true:=fun u hu=>by
 simp only[recL,List.mem_cons,List.not_mem_nil,or_false]at hu
 rcases hu with h|h|h|h|h|h|h|h|h|h|h|h|h|h|h|h|h|h|h|h<;>(rw[h];rfl)
attribute [local irreducible] Mk.cells HD.cells Cf.cells wpList Code.wp
theorem makerR_any (gq:Nat)(a:Option Addr)(len cap:Nat)(f:Nat→Int)(k:Nat)(mo:Nat)(w:World)(h:SeqIn w gq a len cap f k)(hmo:mo≤1000):
 Calls Tryz.prog 27 #[.pointer (some ⟨gq,0,none⟩),.int .i64 (mo:Int)] w (MadeR gq mo w):=by
 have hgq:=h.1.lt
 have Q0:=yH h
 have HW0:=yH (show 0<len→ ∀b off,a=some ⟨b,off,none⟩→b<w.heap.size from fun h0 b off e=>by obtain⟨b',off',e',h1,_⟩:=h.2.1 0 h0;rw[e]at e';injection e' with e';injection e' with e';omega)
 have HC:=yH (config_any gq a len cap f k w h)
 have HS:=yH fun(b:Int) (h1:1≤b) (h2:b≤1000000) (j:Nat) (W:World) (hW:SeqIn W gq a len cap f j)=>seqN_at gq a len cap f j b W h1 h2 hW
 have HNm:=yH fun(C:Cf) (x:Int) (W:World) (hds:0<C.ds∧C.ds≤64) (hfs:0<C.fs∧C.fs≤64)=>newmaker_any C x W hds hfs
 clear h
 go_enter Tryz.func27,Tryz.ntmps27
 go_upto_region 2 with(first
  |(go_at_call 75;(with_reducible refine HC.out.mono ?_);rintro e w1 ⟨C,rfl,hok1,hq1,hk1⟩;have HOk:=yH hok1;have Q1:=yH hq1;have K1:=yH hk1;clear hok1 hq1 hk1)
  |((with_reducible apply at_store (.tmp 6) (.tmp 13));refine wpList_store_row rfl 101 (.tmp 6) (.tmp 13) rfl w1.heap.size (Cf.cells C).toArray rfl rfl 101 zC (heap_alloc_new w1 _) (cf_info _) (cf_zeros _) (Cf.one _) ?_)
  |fail)
 have R2:=yH (show Blk ((w1.alloc (.cells zC 101)).setRow w1.heap.size (Cf.cells C).toArray) w1.heap.size (Cf.cells C) 101 from setRow_heap _ _ _ _ _ (0,0) (heap_alloc_new w1 _))
 have B2:=yH (show Below w1.heap.size w1 ((w1.alloc (.cells zC 101)).setRow w1.heap.size (Cf.cells C).toArray)from below_setRow ((Below.refl _ _).alloc (yR _) _) (yR _) _)
 generalize (w1.alloc (.cells zC 101)).setRow w1.heap.size (Cf.cells C).toArray=w2 at*
 have Q2:=yH (Q1.out.below B2.out)
 have K2:=yH (K1.out.trans (KeptB.of_below (B2.out.mono K1.out.size)))
 have hs2:=R2.out.lt
 have hgs:gq<w1.heap.size:=Q1.out.1.lt
 generalize w1.heap.size=s at*
 clear Q0 HC Q1 K1 B2
 have Q2d:=yH (Q2.out.below (Below.refl _ _).drew)
 have K2d:=yH (K2.out.drew)
 have R2d:=yH (R2.out.drew)
 have hs2d:s<w2.drew.heap.size:=hs2
 have S2:=yH (show w2.drew.rangeAt s 0 (Cf.cells C)from fun j v hj=>by rw[Nat.zero_add];exact R2.out.cell hj)
 refine wp_region_noPanic ?_
 refine wp_region_held_drew (S:=fun W:World=>W.rangeAt s 0 (Cf.cells C)) (by kernel_rfl) (by exact S2.out) (fun hHeld=>?_)
 refine tk (i:=0) (oi:=⟨some 14,_,_,_,_,_⟩) rfl (yieldsIf_load_mid (by rfl) _ _ rfl _ _ rfl _ _ (fun _ h=>h) Tryz.underlying101 rfl (Cf.info C)) ?_
 try simp only[Act.put,sA,sZ,sS]
 refine tk (i:=1) (oi:=⟨some 15,_,_,_,_,_⟩) (v:=?_) rfl (Or.inl ⟨by rfl,?_⟩) ?_
 rotate_left
 ·intro W hSw;go_simp;try (with_reducible rfl)
 try simp only[Act.put,sA,sZ,sS]
 refine wpAnyH_ready (rs:=[2]) (by kernel_rfl) (by simp) ?_
 refine AllReadyH.cons (o:=⟨some 16,_,_,_,_,_⟩) rfl (fun K hK=>?_) AllReadyH.nil
 go_simp
 (refine(HS.out 6 (by decide) (by decide) _ _ Q2d.out).mono ?_);rintro e w3 ⟨r6,rfl,hr6,hq3,hk3⟩;have hwr6:IntKind.u64.wrap (r6:Int)=(r6:Int):=by {rw[IntKind.wrap_u64];omega};have Q3:=yH hq3;have K3:=yH (K2d.out.trans (hk3.mono K2d.out.size));have R3:=yH (Seq8.Blk.keptB R2d.out hk3 hs2d (Nat.ne_of_gt hgs));have S3:=yH (show w3.rangeAt s 0 (Cf.cells C)from fun j v hj=>by {rw[Nat.zero_add];exact R3.out.cell hj});clear hq3 hk3
 try go_wp2_with fail
 refine hK.out _ _ (by exact S3.out) (fun hHeld=>?_)
 clear hK K
 try simp only[Act.put,sA,sZ,sS]
 refine tk (i:=3) (oi:=⟨some 17,_,_,_,_,_⟩) (v:=?_) rfl (Or.inl ⟨by rfl,?_⟩) ?_
 rotate_left
 ·intro W hSw;go_simp;try (with_reducible rfl)
 try simp only[Act.put,sA,sZ,sS]
 refine wpAnyH_ready (rs:=[4]) (by kernel_rfl) (by simp) ?_
 refine AllReadyH.cons (o:=⟨some 18,_,_,_,_,_⟩) rfl (fun K hK=>?_) AllReadyH.nil
 go_simp
 (refine(HNm.out C _ _ HOk.out.ds HOk.out.fs).mono ?_);rintro e w4 ⟨g,rfl,⟨p4,hat4⟩,hb4⟩;have B4:=yH hb4;have S4:=yH (show w4.rangeAt s 0 (Cf.cells C)from fun j v hj=>by {rw[Nat.zero_add];exact(R3.out.below hb4 R3.out.lt).cell hj});clear hb4
 try go_wp2_with fail
 refine hK.out _ _ (by exact S4.out) (fun hHeld=>?_)
 clear hK K
 try simp only[Act.put,sA,sZ,sS]
 refine tk (i:=5) (oi:=⟨some 7,_,_,_,_,_⟩) (v:=?_) rfl (Or.inl ⟨by rfl,?_⟩) ?_
 rotate_left
 ·intro W hSw;go_simp;try (with_reducible rfl)
 try simp only[Act.put,sA,sZ,sS]
 refine wpAnyH_done (by kernel_rfl) ?_ _
 refine NoPanic.normal ?_
 have HAt:=yH hat4
 have Q4:=yH (Q3.out.below B4.out)
 have K4:=yH (K3.out.trans (KeptB.of_below (B4.out.mono K3.out.size)))
 have hBw:w.heap.size≤w3.heap.size:=K3.out.size
 have HG:=yH (show GoodN (Mk.new C (r6:Int)) 0 mo from⟨(new_good HOk.out _ (by omega)).img,(new_good HOk.out _ (by omega)).most,rfl,Nat.zero_le _,[],Reach.mk HOk.out _ (by omega),rfl⟩)
 generalize Mk.new C (r6:Int)=m0 at*
 generalize w3.heap.size=B at*
 clear hat4 Q2 K2 R2 hs2 Q2d S2 K2d R2d hs2d HNm HS HOk hwr6 hr6 hgs
 go_upto_region 4 with fail
 have hL0:=yH (show LM w4 w.heap.size B g gq a len cap f none 0 0 w mo from by
  obtain⟨rs0,hr0,hl0⟩:=HG.out.rch
  exact⟨⟨p4,m0,rs0,[],m0.h.N 9,HAt.out,HG.out,(fun k h=>by cases h),⟨OwnE.nil _ _ (by have:=(HAt.out.lt g (.inl rfl));omega),fun _=>rfl,fun h=>absurd h (by decide)⟩,hr0,hl0,(Int.add_zero _).symm,⟨by rw[hl0];rfl,fun i hi=>absurd hi (by omega)⟩⟩,⟨_,Q4.out⟩,K4.out⟩)
 clear HAt HG Q4 K4
 go_loopw [8] (fun a8 wr=> ∃(A:Option Addr) (n c:Nat),a8= .slice A n c∧n≤mo∧Hid (LM wr w.heap.size B g gq a len cap f A n c w mo)) (fun a8 _=>mo-slen a8)
 case atStart=>exact⟨none,0,0,rfl,Nat.zero_le _,hL0⟩
 case round=>
  obtain⟨A,n,c,rfl,hn,hL⟩:=hrel
  obtain⟨⟨p,m,rs,xs,b0,hat,hgd,hoff,hout,hrch,hrl,hn9,hrow⟩,⟨k,hsq⟩,hkp⟩:=hL.out
  have HRch:=yH hrch
  have HRl:=yH hrl
  have HN9:=yH hn9
  have HRow:=yH hrow
  have HAt:=yH hat
  have HGd:=yH hgd
  have HOff:=yH hoff
  have HSq:=yH hsq
  have HKp:=yH hkp
  have HOut:=yH hout
  clear hL hL0 hat hgd hoff hsq hkp hout hrch hrl hn9 hrow
  have HMr:=yH (more_any gq a len cap f k wr HSq.out)
  by_cases hlt:n<mo
  ·have d1:decide ((n:Int)<(mo:Int))=true:=by simp;omega
   by_cases hk:k<len
   ·have d2:decide (k<len)=true:=by simpa using hk
    rw[d2]at HMr
    go_upto_region 5 with(first
     |(go_at_call 77;(refine HMr.out.mono ?_);rintro e w5 ⟨rfl,hb5⟩;have B5:=yH hb5;clear hb5)
     |fail)
    have HA5:=yH (At.below HAt.out B5.out)
    have Q5:=yH (HSq.out.below B5.out)
    have HTl:=yH (tail_any B g p.bb p.cb p.S m w5 HA5.out.st)
    have HRc:=yH fun(x:Int)=>record_any gq a len cap f k x w5 Q5.out
    unfold Recorded at HRc
    obtain⟨sq,hwq⟩: ∃y,IntKind.u64.wrap (m.h.N 9+1)=y:=⟨_,rfl⟩
    clear d1 d2 HMr
    go_upto_region 6 with(first
     |(go_at_call 79;(refine HTl.out.mono ?_);rintro e w6 ⟨rfl,rfl⟩)
     |(go_at_call 78;(refine(HRc.out _).mono ?_);rintro e w7 ⟨L,Ar,nr,cr,k7,r,mo7,x,rfl,hL7,hn7,hP7,hr7,hm7,hx7,hq7,hk7,hnw7⟩;have HL7:=yH hL7;have HPr7:=yH hP7;have HQ7:=yH hq7;have HK7:=yH hk7;have HNw7:=yH hnw7;clear hL7 hP7 hq7 hk7 hnw7)
     |((with_reducible apply at_store (.tmp 9) (.tmp 31));refine wpList_store_row rfl 74 (.tmp 9) (.tmp 31) rfl w7.heap.size (recL sq (r:Int) (mo7:Int) (mkId x) (.slice Ar nr cr)).toArray rfl rfl 74 zR (heap_alloc_new w7 _) (recInfo _ _ _ _ _) rfl (by simp[Value.oneCell']) ?_)
     |fail)
    have R8:=yH (show Blk ((w7.alloc (.cells zR 74)).setRow w7.heap.size (recL sq (r:Int) (mo7:Int) (mkId x) (.slice Ar nr cr)).toArray) w7.heap.size (recL sq (r:Int) (mo7:Int) (mkId x) (.slice Ar nr cr)) 74 from setRow_heap _ _ _ _ _ (0,0) (heap_alloc_new w7 _))
    have B8:=yH (show Below w7.heap.size w7 ((w7.alloc (.cells zR 74)).setRow w7.heap.size (recL sq (r:Int) (mo7:Int) (mkId x) (.slice Ar nr cr)).toArray)from below_setRow ((Below.refl _ _).alloc (yR _) _) (yR _) _)
    generalize (w7.alloc (.cells zR 74)).setRow w7.heap.size (recL sq (r:Int) (mo7:Int) (mkId x) (.slice Ar nr cr)).toArray=w8 at*
    have HWq:=yH hwq
    clear HTl HRc hwq
    have hz75:wr.heap.size≤w7.heap.size:=Nat.le_trans B5.out.size HK7.out.size
    have hwwr:w.heap.size≤wr.heap.size:=HKp.out.size
    have HA7:=yH (At.offB HA5.out (kf_of_kb HK7.out) (fun k' h'=>by have h':k'=gq:=h';omega))
    have HA8:=yH (At.below HA7.out B8.out)
    have HPr8:=yH (HPr7.out.below B8.out)
    have HQ8:=yH (HQ7.out.below B8.out)
    have HK8:=yH (show KeptB w.heap.size gq w w8 from((HKp.out.trans (KeptB.of_below (B5.out.mono hwwr))).trans (HK7.out.mono (Nat.le_trans hwwr B5.out.size))).trans (KeptB.of_below (B8.out.mono (Nat.le_trans hwwr hz75))))
    have HKF8:=yH (show KeptF (One gq) wr w8 from((KeptF.of_below (F:=One gq) B5.out).trans (kf_of_kb HK7.out) (fun _ _ h=>h)).trans (KeptF.of_below (F:=One gq) B8.out) (fun _ _ h=>h))
    have hs7:w7.heap.size<w8.heap.size:=R8.out.lt
    have HRg:=yH (rec_range R8.out)
    have c19:w8.cell? ⟨w7.heap.size,19,none⟩=some (.slice Ar nr cr):=R8.out.cell rfl
    have c1:w8.cell? ⟨w7.heap.size,1,none⟩=some (.int .u64 (r:Int)):=R8.out.cell rfl
    have c2:w8.cell? ⟨w7.heap.size,2,none⟩=some (.int .u64 (mo7:Int)):=R8.out.cell rfl
    have HApp:=yH (append_any (p:=p) (m:=m) Ar L nr cr (r:Int) (mo7:Int) (mkId x) w8 HA8.out HGd.out.img.inv HPr8.out HL7.out (by omega) HGd.out.img.len (by rw[HGd.out.most];decide) (mkId_ok (by omega)) (by omega) (by omega) (HGd.out.img.hg.nb 9 (by omega)))
    unfold Appended at HApp
    have HGd9:=yH (after_goodN HGd.out hlt HPr8.out.1 (r:Int) (mo7:Int) (mkId x) (by omega) (by omega) (mkId_ok (by omega)))
    have HRc9:=yH (show(Mk.acode m L (r:Int) (mo7:Int) (mkId x)=0→Reach (Mk.after m L (r:Int) (mo7:Int) (mkId x)) (rs++ [(L,(r:Int),(mo7:Int),mkId x)])∧(Mk.after m L (r:Int) (mo7:Int) (mkId x)).h.N 9=m.h.N 9+1∧sq=m.h.N 9+1)∧(Mk.acode m L (r:Int) (mo7:Int) (mkId x)≠0→Mk.after m L (r:Int) (mo7:Int) (mkId x)=m)from
     ⟨fun h0=>⟨Reach.step HRch.out L HPr8.out.1 (r:Int) (mo7:Int) (mkId x) (by omega) (by omega) (mkId_ok (by omega)) h0,(after_n9 h0).1,by
       have h9:=(after_n9 h0).2
       have h9b:=HGd.out.img.hg.nb 9 (by omega)
       have hw:=HWq.out
       rw[IntKind.wrap_u64]at hw
       omega⟩,fun h0=>if_neg h0⟩)
    have HLn:=yH HL7.out
    have HAr8:=yH (show ∀b off,Ar=some ⟨b,off,none⟩→0<nr→wr.heap.size≤b∧b<w8.heap.size from fun b off e hn=>by
     have h5:=HNw7.out b off e hn
     have h6:=B5.out.size
     obtain⟨b2,off2,e2,h7,_⟩:=HPr8.out.2 0 (by rw[HL7.out];exact hn)
     rw[e]at e2
     injection e2 with e2
     injection e2 with e2
     subst e2
     exact⟨by omega,h7⟩)
    have HPr8b:=yH HPr8.out
    generalize Mk.after m L (r:Int) (mo7:Int) (mkId x)=m9 at*
    generalize Mk.acode m L (r:Int) (mo7:Int) (mkId x)=cd at*
    clear HA5 Q5 HQ7 HK7 HA7 HPr7 HL7 HPr8 HKp hx7 B5
    generalize hs7e:w7.heap.size=s7 at*
    clear hs7e B8
    go_upto_region 7 with(first
     |((with_reducible apply at_slot 41);refine wpList_load_mid rfl 37 (.tmp 40) rfl s7 3 rfl (idJ (mkId x)) _ HRg.out Tryz.underlying37 rfl (idJ_info _) ?_)
     |(go_at_call 47;(refine HApp.out.mono ?_);rintro e w9 ⟨rfl,p9,ha9,hp9⟩;have HA9:=yH ha9;have HP9:=yH hp9;clear ha9 hp9)
     |fail)
    clear c19 c1 c2 HRg HApp
    have hlt0:=At.lt HAt.out
    have HB9:=yH (show Below B w8 w9 from HP9.out.base (by have:=(hlt0 g (.inl rfl));omega) (fun k' h'=>(hlt0 k' h').1))
    have HK9:=yH (show KeptB w.heap.size gq w w9 from HK8.out.trans (KeptB.of_below (HB9.out.mono hBw)))
    have HO9:=yH (show OwnE 74 20 w9 B A n c xs from Mf.OwnE.keptF HOut.out.own (((HKF8.out.mono (G:=fun k'=>k'=gq∨p.foot g k') (fun i h=> .inl h)).trans HP9.out.kept (fun _ _ h=> .inr h))) (fun k' hk' h=>by
     rcases h with h|h
     ·have:=(OwnE.ltB HOut.out.own k' hk').1;omega
     ·exact HOff.out k' hk' h))
    have HOff9:=yH (show ∀k',ownB A=some k'→ ¬p9.foot g k' from fun k' hk' h=>by
     rcases HP9.out.foot k' h with h1|h1
     ·exact HOff.out k' hk' h1
     ·have:=(OwnE.ltB HOut.out.own k' hk').2;omega)
    have hsz8:wr.heap.size≤w8.heap.size:=HKF8.out.size
    have HRow9:=yH (show RowsR w9 gq (p9.foot g) A xs b0 rs from HRow.out.step ((HKF8.out.mono (G:=fun k'=>k'=gq∨p.foot g k') (fun i h=> .inl h)).trans HP9.out.kept (fun _ _ h=> .inr h)) (fun b _ h=>h.elim .inl (fun h=> .inr (.inl h))) (fun b hb hf=>(HP9.out.foot b hf).elim id (fun h=>by omega)) (fun b _ h=>h))
    have HPr9:=yH (show Prs w9 Ar L from by
     rcases Nat.eq_zero_or_pos nr with h0|h0
     ·rw[List.eq_nil_of_length_eq_zero (show L.length=0 by have:=HLn.out;omega)]
      exact Prs.nil _ _
     ·exact HPr8b.out.keptB HP9.out.kept.size fun b off e hb=>HP9.out.kept.block b hb fun hf=>by
       have h1:=(hlt0 b hf).2
       have h2:=(HAr8.out b off e h0).1
       omega)
    have HAr9:=yH (show ∀b off,Ar=some ⟨b,off,none⟩→0<nr→b<w9.heap.size∧b≠gq∧ ¬p9.foot g b∧ownB A≠some b from fun b off e hn=>by
     obtain⟨h1,h2⟩:=HAr8.out b off e hn
     have h3:=HP9.out.kept.size
     refine⟨by omega,by omega,fun hf=>?_,fun ha=>?_⟩
     ·rcases HP9.out.foot b hf with h4|h4
      ·have:=(hlt0 b h4).2;omega
      ·omega
     ·have:=(OwnE.ltB HOut.out.own b ha).2;omega)
    by_cases hz:cd=0
    ·have d3:(cd !=0)=false:=by simp[hz]
     have d3e:(cd==0)=true:=by simp[hz]
     have HR9:=yH (show Blk w9 s7 (recL sq (r:Int) (mo7:Int) (mkId x) (.slice Ar nr cr)) 74 from(HP9.out.kept.block s7 hs7 (fun hf=>by have:=(hlt0 s7 hf).2;omega)).trans R8.out)
     have HRw9:=yH (show Rws (w9.alloc (.cells (recL sq (r:Int) (mo7:Int) (mkId x) (.slice Ar nr cr)).toArray 74)) B A n c xs from⟨OwnE.alloc HO9.out _,HOut.out.nil,HOut.out.u8⟩)
     have HA9a:=yH (At.below HA9.out ((Below.refl w9.heap.size w9).alloc (yR _) (.cells (recL sq (r:Int) (mo7:Int) (mkId x) (.slice Ar nr cr)).toArray 74)))
     have hnl:xs.length=n*20:=OwnE.len HOut.out.own
     have HOn:=yH (recL_one sq (r:Int) (mo7:Int) (mkId x) Ar nr cr)
     go_wp2_with(first
      |((with_reducible apply at_slot 48);refine wpList_load_row rfl 74 (.tmp 9) rfl s7 rfl 74 (recL sq (r:Int) (mo7:Int) (mkId x) (.slice Ar nr cr)).toArray (0,0) _ HR9.out Tryz.underlying74 rfl (recInfo _ _ _ _ _) ?_)
      |(at_builtin;refine wpList_append_new recElt rfl (.tmp 47) (.tmp 49) rfl B A n c xs rfl HRw9.out.own ⟨w9.heap.size,0,none⟩ 1 1 (recL sq (r:Int) (mo7:Int) (mkId x) (.slice Ar nr cr)) rfl rfl (Blk.news (Blk.new w9 _ _)) HOn.out (by omega) (by omega) (by unfold maxLen;omega) ?_;intro A' c' w10 ho10 hg10 hat10;have HO10:=yH ho10;have HG10:=yH hg10;have HT10:=yH hat10;clear ho10 hg10 hat10)
      |fail)
     have HA10:=yH (At.rows HA9a.out HRw9.out HOff9.out HO10.out HG10.out HT10.out)
     have HB10:=yH (show Below B w9 w10 from((Below.refl B w9).alloc (by have:=(At.lt HA9.out g (.inl rfl));omega) (.cells (recL sq (r:Int) (mo7:Int) (mkId x) (.slice Ar nr cr)).toArray 74)).trans (below_grown HG10.out (by have:=(At.lt HA9a.out g (.inl rfl));omega) (fun k' hk'=>(OwnE.ltB HOut.out.own k' hk').1)))
     have HRow10:=yH (show RowsR w10 gq (p9.foot g) A' (xs++recL sq (r:Int) (mo7:Int) (mkId x) (.slice Ar nr cr)) b0 (rs++ [(L,(r:Int),(mo7:Int),mkId x)])from
      (HRow9.out.snoc (L,(r:Int),(mo7:Int),mkId x) (cr:=cr) (by have h1:=(HRc9.out.1 hz).2.2;have h2:=HN9.out;have h3:=HRl.out;omega) HLn.out hn7 HPr9.out HAr9.out).step (((KeptF.refl (fun k=>ownB A=some k) w9).alloc _).grown HG10.out (fun k h _=>h.symm▸rfl)) (fun b _ h=> .inr (.inr h)) (fun b _ h=>h) (fun b hb h=>by
        rcases HT10.out with h1|⟨h1,_⟩
        ·rw[←h1];exact h
        ·rw[h1]at h
         injection h with h
         simp only[World.alloc,Array.size_push]at h
         omega))
     go_roundw
     case rel=>
      refine⟨A',n+1,c',rfl,by omega,yH ⟨⟨p9,m9,rs++ [(L,(r:Int),(mo7:Int),mkId x)],_,b0,HA10.out,HGd9.out.1 hz,fun k' hk' hf=>?_,⟨HO10.out,fun h=>by omega,fun _=>?_⟩,(HRc9.out.1 hz).1,by rw[List.length_append,HRl.out];rfl,by have h1:=(HRc9.out.1 hz).2.1;have h2:=HN9.out;omega,HRow10.out⟩,⟨k7,seq_low HQ8.out (HB9.out.trans HB10.out) (by omega) (fun h0 b off e=>yL (HW0.out h0 b off e) hBw)⟩,HK9.out.trans (KeptB.of_below (HB10.out.mono hBw))⟩⟩
      ·rcases HT10.out with h1|⟨h1,_⟩
       ·exact HOff9.out k' (h1▸hk') hf
       ·rw[h1]at hk'
        have h3:=(At.lt HA9a.out k' hf).2
        rw[←Option.some.inj hk']at h3
        exact Nat.lt_irrefl _ h3
      ·rcases Nat.eq_zero_or_pos n with h0|h0
       ·rw[List.eq_nil_of_length_eq_zero (show xs.length=0 by omega)]
        exact⟨_,rfl⟩
       ·obtain⟨v,hv⟩:=HOut.out.u8 h0
        refine⟨v,?_⟩
        rw[List.getElem?_append_left (by omega)]
        exact hv
     case measure=>simp[slen];omega
    ·have d3:(cd !=0)=true:=by simpa using hz
     go_wp2
     go_ret2
     exact⟨g,A,n,c,B,p9,m9,rs,xs,b0,rfl,hBw,HA9.out,HGd9.out.2 hz,HK9.out,⟨HO9.out,HOut.out.nil,HOut.out.u8⟩,by rw[HRc9.out.2 hz];exact HRch.out,HRl.out,by rw[HRc9.out.2 hz];exact HN9.out,HRow9.out⟩
   ·have d2:decide (k<len)=false:=by simpa using hk
    rw[d2]at HMr
    go_wp2_with(first
     |(go_at_call 77;(refine HMr.out.mono ?_);rintro e w5 ⟨rfl,hb5⟩;have B5:=yH hb5;clear hb5)
     |fail)
    go_ret2
    exact⟨g,A,n,c,B,p,m,rs,xs,b0,rfl,hBw,At.below HAt.out B5.out,HGd.out,HKp.out.trans (KeptB.of_below (B5.out.mono HKp.out.size)),⟨HOut.out.own.kept B5.out (yR _),HOut.out.nil,HOut.out.u8⟩,HRch.out,HRl.out,HN9.out,HRow.out.step (KeptF.of_below (F:=fun _=>False) B5.out) (fun _ _ h=>h.elim) (fun _ _ h=>h) (fun _ _ h=>h)⟩
  ·have d1:decide ((n:Int)<(mo:Int))=false:=by simp;omega
   go_wp2_with fail
   go_ret2
   exact⟨g,A,n,c,B,p,m,rs,xs,b0,rfl,hBw,HAt.out,HGd.out,HKp.out,HOut.out,HRch.out,HRl.out,HN9.out,HRow.out⟩
theorem maker_any (gq:Nat)(a:Option Addr)(len cap:Nat)(f:Nat→Int)(k:Nat)(mo:Nat)(w:World)(h:SeqIn w gq a len cap f k)(hmo:mo≤1000):
 Calls Tryz.prog 27 #[.pointer (some ⟨gq,0,none⟩),.int .i64 (mo:Int)] w (MadeJ gq mo w):=by
 refine(makerR_any gq a len cap f k mo w h hmo).mono ?_
 rintro e w' ⟨g,A,n,c,B,p,m,rs,xs,b0,h1,h2,h3,h4,h5,_⟩
 exact⟨g,A,n,c,B,p,m,h1,h2,h3,h4,h5⟩
def ImagedN (mo:Nat)(w:World)(e:Ending)(w':World):Prop:= ∃(A:Option Addr) (c:Nat) (m:Mk) (n:Nat),e= .returned (.slice A m.b.length c)∧GoodN m n mo∧Own w' w.heap.size A m.b.length c (imgB m)∧Below w.heap.size w w'
theorem image_n (a:Option Addr)(len cap:Nat)(f:Nat→Int)(mo:Nat)(w:World)(hI:InInts .i64 w a len f)(hl:len≤9223372036854775807)(hmo:mo≤1000):
 Calls Tryz.prog 13 #[.slice a len cap,.int .i64 (mo:Int)] w (ImagedN mo w):=by
 have Q1:=yH (show SeqIn (w.alloc (.cells #[.slice a len cap,.int .i64 0] 62)) w.heap.size a len cap f 0 from⟨Blk.new w [.slice a len cap,.int .i64 0] _,hI.below ((Below.refl _ _).alloc (yR _) _),fun h0 b off e=>by obtain⟨b',off',e',h1,_⟩:=hI 0 h0;rw[e]at e';injection e' with e';injection e' with e';omega,Nat.zero_le _,hl⟩)
 have b1:=yH ((Below.refl w.heap.size w).alloc (yR _) (.cells #[.slice a len cap,.int .i64 0] 62))
 have HM:=yH (maker_any w.heap.size a len cap f 0 mo _ Q1.out hmo)
 unfold MadeJ at HM
 clear hI
 go_enter Tryz.func13,Tryz.ntmps13
 go_upto_region 2 with(first
  |(go_at_call 27;(refine HM.out.mono ?_);rintro e w2 ⟨g,A,n,c,B,p,m,rfl,hB,hat,hgd,hk⟩;have HA:=yH hat;have HG:=yH hgd;have HK:=yH hk;clear hat hgd hk)
  |fail)
 obtain⟨l1,l2,l3⟩:=HG.out.img.lens
 have HIm:=yH (image_any B g p.bb p.cb p.S m 1 w2 HA.out.st (by omega) (head_ok HG.out.img) (by have:=HG.out.img.inv.dep;omega))
 unfold Owned at HIm
 have B2:=yH (b1.out.trans (KeptB.below (HK.out.mono b1.out.size) (yR _)))
 clear Q1 HM
 go_wp2_with(first
  |(go_at_call 28;(refine HIm.out.mono ?_);rintro e w3 ⟨A3,c3,rfl,ho3,hb3⟩;have HO3:=yH ho3;have HB3:=yH hb3;clear ho3 hb3)
  |fail)
 go_ret
 exact⟨A3,c3,m,n,rfl,HG.out,Own.base HO3.out B2.out.size,B2.out.trans (HB3.out.mono B2.out.size)⟩
end Nu
namespace Nv
open Go1 (hcode rhd hread_any HTold bytes_take magicB)
end Nv
end Go.Proofs.YtiddkgcafpaekaaGreat
