/-
  Texts beneath the proof.
-/
import Derived.Test.YtelmgldkgccecaaGreatQs1
import Derived.Laws.OwnMore
import Derived.Deep.MidRow
import Derived.Test.YtelmgldkgccecaaGreatQs20
import Derived.Test.YtelmgldkgccecaaGreatQs19
set_option linter.unusedVariables false
set_option linter.unusedSimpArgs false
set_option maxRecDepth 100000
open Go.ChangeShapes Go.WideShapes Go.ChangeAt Go.RowKit
namespace Go.Proofs.YtelmgldkgccecaaGreat
namespace Nk
open Bytes8 Blk8 Own8 OwnE Ga Ma Kf Mb Mc Md Mf Mg Fb Dc Na Nc Nd Nh
theorem at_head (m m':Mk)(S:Sl)(j:Nat)(hC:m.C=m'.C)(hd:m.depth=m'.depth)(h:52≤j→j<142→m'.h.at_ 20 (j-52)=m.h.at_ 20 (j-52)):Mk.at_ m' S j=Mk.at_ m S j:=by
 unfold Mk.at_
 by_cases h1:j<142
 ·rw[if_pos h1,if_pos h1]
  by_cases h2:j<52
  ·rw[if_pos h2,if_pos h2,hC]
  ·rw[if_neg h2,if_neg h2,h (by omega) h1]
 ·rw[if_neg h1,if_neg h1,hd]
theorem set_ta (m:Mk)(S:Sl)(v:Int):(Mk.cells m S).set 139 (.int .u32 v)=Mk.cells {m with h:={m.h with ta:=v}} S:=
 set_map _ _ _ _ _ rfl fun j hj=>at_head _ _ _ _ rfl rfl fun h1 h2=>by
  unfold HD.at_
  repeat' split
  all_goals first|rfl|(exfalso;omega)
theorem set_ti (m:Mk)(S:Sl)(v:Int):(Mk.cells m S).set 140 (.int .u32 v)=Mk.cells {m with h:={m.h with ti:=v}} S:=
 set_map _ _ _ _ _ rfl fun j hj=>at_head _ _ _ _ rfl rfl fun h1 h2=>by
  unfold HD.at_
  repeat' split
  all_goals first|rfl|(exfalso;omega)
theorem set_te (m:Mk)(S:Sl)(v:Int):(Mk.cells m S).set 141 (.int .u64 v)=Mk.cells {m with h:={m.h with te:=v}} S:=
 set_map _ _ _ _ _ rfl fun j hj=>at_head _ _ _ _ rfl rfl fun h1 h2=>by
  unfold HD.at_
  repeat' split
  all_goals first|rfl|(exfalso;omega)
theorem get_ta (m:Mk)(S:Sl):(Mk.cells m S)[139]? =some (.int .u32 m.h.ta):=by rw[Mk.get m S _ (by decide)];rfl
theorem get_ti (m:Mk)(S:Sl):(Mk.cells m S)[140]? =some (.int .u32 m.h.ti):=by rw[Mk.get m S _ (by decide)];rfl
theorem get_te (m:Mk)(S:Sl):(Mk.cells m S)[141]? =some (.int .u64 m.h.te):=by rw[Mk.get m S _ (by decide)];rfl
variable {w w' : World} {B g : Nat} {p p' : Pl} {m m' : Mk}
theorem At.cta (h:At w B g p m):w.cell? ⟨g,139,none⟩=some (.int .u32 m.h.ta):=h.st.st.cell (get_ta _ _)
theorem At.cti (h:At w B g p m):w.cell? ⟨g,140,none⟩=some (.int .u32 m.h.ti):=h.st.st.cell (get_ti _ _)
theorem At.cte (h:At w B g p m):w.cell? ⟨g,141,none⟩=some (.int .u64 m.h.te):=h.st.st.cell (get_te _ _)
theorem At.head1 (h:At w B g p m)(i:Nat)(v:Value)(hd:HD)(e: ∀S,(Mk.cells m S).set i v=Mk.cells {m with h:=hd} S):At (w.setCell ⟨g,i,none⟩ v) B g p {m with h:=hd}:=
 Nd.At.struct (S':=0) (v:= .bool true) h i v ⟨by have:=h.st.st.set_ i v;rw[e]at this;exact this,own_set1 h.st.own h.st.ne _ _,h.st.ne⟩ rfl rfl rfl
theorem At.setTa (h:At w B g p m)(v:Int):At (w.setCell ⟨g,139,none⟩ (.int .u32 v)) B g p {m with h:={m.h with ta:=v}}:=At.head1 h _ _ _ fun S=>set_ta m S v
theorem At.setTi (h:At w B g p m)(v:Int):At (w.setCell ⟨g,140,none⟩ (.int .u32 v)) B g p {m with h:={m.h with ti:=v}}:=At.head1 h _ _ _ fun S=>set_ti m S v
theorem At.setTe (h:At w B g p m)(v:Int):At (w.setCell ⟨g,141,none⟩ (.int .u64 v)) B g p {m with h:={m.h with te:=v}}:=At.head1 h _ _ _ fun S=>set_te m S v
theorem At.setM (h:At w B g p m)(v:Value)(l:List Nat)(hv:Arr w (p.away B g) v l):At (w.setCell ⟨g,146,none⟩ v) B g {p with M:=v} {m with main:=l}∧Path g p w {p with M:=v} (w.setCell ⟨g,146,none⟩ v):=by
 have hk:=(KeptF.refl (p.foot g) w).setCell (p:=⟨g,146,none⟩) (fun _=>Or.inl rfl) v
 refine⟨h.turn (p':={p with M:=v}) hk (fun _ h=> .inl h) ?_ (Mf.OwnE.keptF h.dr (KeptF.set1 w g 146 v) fun j hj e=>(h.dg j hj).1 e) (Mf.OwnE.keptF h.fr (KeptF.set1 w g 146 v) fun j hj e=>(h.fg j hj).1 e) h.dm h.fm (fun q hq=> .inl hq) (.inr (hv.kept hk (fun _ _ h h2=>h (.inl h2)) fun _ _ h=>h)) h.dg h.fg h.df (fun q hq=> .inl hq),⟨fun _ h=> .inl h,hk⟩⟩
 have:=h.st.st.set_ 146 v
 rw[Mk.set_m]at this
 exact MkB.same (m:=m) (m':={m with main:=l}) (S:={p.S with m:=v}) ⟨this,own_set1 h.st.own h.st.ne _ _,h.st.ne⟩ rfl rfl rfl rfl
end Nk
namespace Nl
open Bytes8 Ga Ma Mb Mc Mf Mg Na Nb Nc Nh
def Mk.bump (m:Mk):Mk:={m with h:=setN m.h 8 (m.h.N 8+1)}
theorem inv_head {m m':Mk}(h:Inv m)(hC:m'.C=m.C)(hb:m'.b=m.b)(hd:m'.datas=m.datas)(hf:m'.fields=m.fields)(hm:m'.main=m.main)(hdp:m'.depth=m.depth)
 (hN: ∀i,i=2∨i=4∨i=7∨i=8∨i=15∨i=16∨i=18∨i=19→m'.h.N i=m.h.N i):Inv m':=
 {F:=by rw[hC];exact h.F
  ds:=by rw[hC];exact h.ds
  fs:=by rw[hC];exact h.fs
  n2:=by rw[hN 2 (by simp)];exact h.n2
  n4:=by rw[hN 4 (by simp),show Mk.tf m'=Mk.tf m by unfold Mk.tf;rw[hC]];exact h.n4
  len:=by rw[hC,hb];exact h.len
  l8:=by rw[hb];exact h.l8
  dat:=by rw[hd,hb];exact h.dat
  fld:=by rw[hf,hb];exact h.fld
  mn:=by rw[hN 8 (by simp),hm,hb];exact h.mn
  n7:=by rw[hN 7 (by simp),hb];exact h.n7
  n15:=by rw[hN 15 (by simp),hb];exact h.n15
  n16:=by rw[hN 16 (by simp),hb];exact h.n16
  n18:=by rw[hN 18 (by simp),hb];exact h.n18
  n19:=by rw[hN 19 (by simp),hb];exact h.n19
  dep:=by rw[hdp,hb];exact h.dep
  dn:=by rw[hd,hb];exact h.dn
  fn:=by rw[hf,hb];exact h.fn}
theorem inv_main {m m':Mk}(h:Inv m)(hC:m'.C=m.C)(hb:m'.b=m.b)(hd:m'.datas=m.datas)(hf:m'.fields=m.fields)(hdp:m'.depth=m.depth)
 (hN: ∀i,i=2∨i=4∨i=7∨i=15∨i=16∨i=18∨i=19→m'.h.N i=m.h.N i)(hm: ∃n:Nat,m'.h.N 8=(n:Int)∧Chain m.b.length m'.main n∧n≤m.b.length):Inv m':=
 {F:=by rw[hC];exact h.F
  ds:=by rw[hC];exact h.ds
  fs:=by rw[hC];exact h.fs
  n2:=by rw[hN 2 (by simp)];exact h.n2
  n4:=by rw[hN 4 (by simp),show Mk.tf m'=Mk.tf m by unfold Mk.tf;rw[hC]];exact h.n4
  len:=by rw[hC,hb];exact h.len
  l8:=by rw[hb];exact h.l8
  dat:=by rw[hd,hb];exact h.dat
  fld:=by rw[hf,hb];exact h.fld
  mn:=by rw[hb];exact hm
  n7:=by rw[hN 7 (by simp),hb];exact h.n7
  n15:=by rw[hN 15 (by simp),hb];exact h.n15
  n16:=by rw[hN 16 (by simp),hb];exact h.n16
  n18:=by rw[hN 18 (by simp),hb];exact h.n18
  n19:=by rw[hN 19 (by simp),hb];exact h.n19
  dep:=by rw[hdp,hb];exact h.dep
  dn:=by rw[hd,hb];exact h.dn
  fn:=by rw[hf,hb];exact h.fn}
theorem setN_comm (h:HD)(i j:Nat)(v u:Int)(e:i≠j):setN (setN h i v) j u=setN (setN h j u) i v:=by
 unfold setN
 congr 1
 funext k
 by_cases h1:k=j
 ·by_cases h2:k=i
  ·exact absurd (h2.symm.trans h1) e
  ·simp[h1,h2]
   intro h3
   exact absurd h3.symm e
 ·by_cases h2:k=i
  ·simp[h1,h2]
   intro h3
   exact absurd h3 e
  ·simp[h1,h2]
theorem object_bump (m:Mk)(l:List Int):(Mk.bump m).object l=Mk.bump (m.object l):=by
 unfold Mk.bump Mk.object
 dsimp only
 rw[setN_comm _ 8 6 _ _ (by decide),setN_comm _ 8 7 _ _ (by decide)]
 rfl
theorem link_bump (m:Mk)(arr:List Nat)(n fr item:Nat):Mk.link (Mk.bump m) arr n fr item=(Mk.bump (Mk.link m arr n fr item).1,(Mk.link m arr n fr item).2):=by
 unfold Mk.link
 by_cases e:n=rooms arr.length
 ·simp only[if_pos e]
  unfold Mk.linkNew
  rw[object_bump]
  unfold Mk.bump
  dsimp only
  rw[setN_comm _ 8 18 _ _ (by decide)]
  rfl
 ·simp only[if_neg e]
  rfl
theorem inv_linked {m:Mk}(h:Inv m)(item n:Nat)(hn:m.h.N 8=(n:Int))(hc:Chain m.b.length m.main n)(hl:n+1≤m.b.length)(h176:184≤m.b.length):
 Inv (Mk.bump (Mk.linked m item n))∧m.b.length≤(Mk.linked m item n).b.length∧(Mk.linked m item n).b.length≤m.b.length+2100∧(Mk.linked m item n).datas=m.datas∧(Mk.linked m item n).C=m.C∧(Mk.linked m item n).h.N 9=m.h.N 9∧(Mk.linked m item n).h.N 8=m.h.N 8:=by
 obtain⟨k1,k2,k3,k4,k5,k6,k7,k8,k9,k10,k11,k12⟩:=inv_link h (fr:=176) item hc (by omega)
 refine⟨?_,k3,k4,k5,k8,?_,?_⟩
 ·refine inv_main k1 rfl rfl rfl rfl rfl ?_ ⟨n+1,?_,k2,by omega⟩
  ·rintro i (rfl|rfl|rfl|rfl|rfl|rfl|rfl)<;>rfl
  ·show(Mk.link m m.main n 176 item).1.h.N 8+1=_
   rw[k10 8 (by decide) (by decide) (by decide),hn]
   rfl
 ·show(Mk.link m m.main n 176 item).1.h.N 9=_
  exact k10 9 (by decide) (by decide) (by decide)
 ·show(Mk.link m m.main n 176 item).1.h.N 8=_
  exact k10 8 (by decide) (by decide) (by decide)
structure InvM (L0 i:Nat)(m:Mk):Prop where
 inv:Inv (Mk.bump m)
 cnt: ∀k∈m.datas,k.count≤L0+i
 len:L0+64≤m.b.length
theorem inv_data {m m':Mk}(h:Inv m)(hC:m'.C=m.C)(hL:m'.b.length=m.b.length)(hf:m'.fields=m.fields)(hm:m'.main=m.main)(hh:m'.h=m.h)(hdp:m'.depth=m.depth)(hdl:m'.datas.length=m.datas.length)
 (hd: ∀k∈m'.datas,k.at_+64≤m.b.length∧AllB k.text∧k.text.length≤400∧Chain m.b.length k.arrays (k.count-1)∧k.count≤m.b.length):Inv m':=
 {F:=by rw[hC];exact h.F
  ds:=by rw[hC];exact h.ds
  fs:=by rw[hC];exact h.fs
  n2:=by rw[hh];exact h.n2
  n4:=by rw[hh,show Mk.tf m'=Mk.tf m by unfold Mk.tf;rw[hC]];exact h.n4
  len:=by rw[hC,hL];exact h.len
  l8:=by rw[hL];exact h.l8
  dat:=by rw[hL];exact hd
  fld:=by rw[hf,hL];exact h.fld
  mn:=by rw[hh,hm,hL];exact h.mn
  n7:=by rw[hh,hL];exact h.n7
  n15:=by rw[hh,hL];exact h.n15
  n16:=by rw[hh,hL];exact h.n16
  n18:=by rw[hh,hL];exact h.n18
  n19:=by rw[hh,hL];exact h.n19
  dep:=by rw[hdp,hL];exact h.dep
  dn:=by rw[hdl,hL];exact h.dn
  fn:=by rw[hf,hL];exact h.fn}
def Mk.hitched (e:Nat)(m:Mk)(j:Nat):Mk×List Nat:=
 if(Mk.kn m j).count=0 then({m with b:=put8 m.b ((Mk.kn m j).at_+40) e},(Mk.kn m j).arrays)
 else((Mk.link m (Mk.kn m j).arrays ((Mk.kn m j).count-1) ((Mk.kn m j).at_+48) e).1,(Mk.link m (Mk.kn m j).arrays ((Mk.kn m j).count-1) ((Mk.kn m j).at_+48) e).2.1)
theorem mark_is (e:Nat)(m:Mk)(j:Nat):Mk.mark e m j={(Mk.hitched e m j).1 with b:=put8 (Mk.hitched e m j).1.b ((Mk.kn m j).at_+56) (((Mk.kn m j).count+1:Nat):Int),datas:=(Mk.hitched e m j).1.datas.set j {Mk.kn m j with count:=(Mk.kn m j).count+1,arrays:=(Mk.hitched e m j).2}}:=rfl
theorem kn_mem {m:Mk}{j:Nat}(hj:j<m.datas.length):Mk.kn m j∈m.datas:=by
 unfold Mk.kn
 rw[List.getD_eq_getElem?_getD,List.getElem?_eq_getElem hj]
 exact List.getElem_mem hj
theorem inv_hitched {L0 i:Nat}{m:Mk}(h:InvM L0 i m)(e j:Nat)(hj:j<m.datas.length):
 Inv (Mk.bump (Mk.hitched e m j).1)∧Chain (Mk.hitched e m j).1.b.length (Mk.hitched e m j).2 (Mk.kn m j).count∧m.b.length≤(Mk.hitched e m j).1.b.length∧(Mk.hitched e m j).1.b.length≤m.b.length+2100∧
 (Mk.hitched e m j).1.datas=m.datas∧(Mk.hitched e m j).1.C=m.C∧(Mk.hitched e m j).1.h.N 9=m.h.N 9∧(Mk.hitched e m j).1.h.N 8=m.h.N 8:=by
 obtain⟨d1,d2,d3,d4,d5⟩:=h.inv.dat _ (show Mk.kn m j∈(Mk.bump m).datas from kn_mem hj)
 have d1:(Mk.kn m j).at_+64≤m.b.length:=d1
 have d4:Chain m.b.length (Mk.kn m j).arrays ((Mk.kn m j).count-1):=d4
 unfold Mk.hitched
 by_cases h0:(Mk.kn m j).count=0
 ·rw[if_pos h0]
  have hl:(put8 m.b ((Mk.kn m j).at_+40) (e:Int)).length=m.b.length:=put8_len _ _ _ (by omega)
  refine⟨inv_bytes h.inv hl,?_,by show _≤(put8 _ _ _).length;omega,by show(put8 _ _ _).length≤_;omega,rfl,rfl,rfl,rfl⟩
  show Chain (put8 _ _ _).length _ _
  rw[hl,h0]
  rw[h0]at d4
  exact d4
 ·rw[if_neg h0]
  obtain⟨k1,k2,k3,k4,k5,k6,k7,k8,k9,k10,k11,k12⟩:=inv_link h.inv (fr:=(Mk.kn m j).at_+48) e (show Chain (Mk.bump m).b.length _ _ from d4) (show _≤m.b.length by omega)
  rw[link_bump]at k1 k2 k3 k4 k5 k6 k7 k8 k9 k10 k11 k12
  dsimp only at k1 k2 k3 k4 k5 k6 k7 k8 k9 k10 k11 k12
  refine⟨k1,?_,k3,k4,k5,k8,?_,?_⟩
  ·rw[show(Mk.kn m j).count=(Mk.kn m j).count-1+1 by omega]
   exact k2
  ·exact k10 9 (by decide) (by decide) (by decide)
  ·have h8:=k10 8 (by decide) (by decide) (by decide)
   have e1:(Mk.link m (Mk.kn m j).arrays ((Mk.kn m j).count-1) ((Mk.kn m j).at_+48) e).1.h.N 8+1=m.h.N 8+1:=h8
   show(Mk.link m (Mk.kn m j).arrays ((Mk.kn m j).count-1) ((Mk.kn m j).at_+48) e).1.h.N 8=m.h.N 8
   omega
theorem inv_mark {L0 i:Nat}{m:Mk}(h:InvM L0 i m)(e j:Nat)(hj:j<m.datas.length)(hi:i<16):
 InvM L0 (i+1) (Mk.mark e m j)∧m.b.length≤(Mk.mark e m j).b.length∧(Mk.mark e m j).b.length≤m.b.length+2100∧(Mk.mark e m j).datas.length=m.datas.length∧(Mk.mark e m j).C=m.C∧(Mk.mark e m j).h.N 9=m.h.N 9∧(Mk.mark e m j).h.N 8=m.h.N 8:=by
 obtain⟨k1,k2,k3,k4,k5,k6,k7,k8⟩:=inv_hitched h e j hj
 obtain⟨d1,d2,d3,d4,d5⟩:=h.inv.dat _ (show Mk.kn m j∈(Mk.bump m).datas from kn_mem hj)
 have d1:(Mk.kn m j).at_+64≤m.b.length:=d1
 have hc:=h.cnt _ (kn_mem hj)
 have hlen:=h.len
 rw[mark_is]
 have hl:(put8 (Mk.hitched e m j).1.b ((Mk.kn m j).at_+56) (((Mk.kn m j).count+1:Nat):Int)).length=(Mk.hitched e m j).1.b.length:=put8_len _ _ _ (by omega)
 have hdl:((Mk.hitched e m j).1.datas.set j {Mk.kn m j with count:=(Mk.kn m j).count+1,arrays:=(Mk.hitched e m j).2}).length=m.datas.length:=by rw[List.length_set,k5]
 refine⟨⟨?_,?_,?_⟩,?_,?_,hdl,k6,k7,k8⟩
 ·refine inv_data k1 rfl hl rfl rfl rfl rfl (hdl.trans (congrArg List.length k5).symm) ?_
  intro k hk
  rcases List.mem_or_eq_of_mem_set (show k∈(Mk.hitched e m j).1.datas.set j _ from hk)with hk|hk
  ·exact k1.dat k hk
  ·rw[hk]
   exact⟨show(Mk.kn m j).at_+64≤(Mk.hitched e m j).1.b.length by omega,d2,d3,k2,show(Mk.kn m j).count+1≤(Mk.hitched e m j).1.b.length by omega⟩
 ·intro k hk
  rcases List.mem_or_eq_of_mem_set (show k∈(Mk.hitched e m j).1.datas.set j _ from hk)with hk|hk
  ·rw[k5]at hk
   have:=h.cnt k hk
   omega
  ·rw[hk]
   show(Mk.kn m j).count+1≤_
   omega
 ·show _≤(put8 _ _ _).length
  omega
 ·show _≤(put8 _ _ _).length
  omega
 ·show(put8 _ _ _).length≤_
  omega
theorem inv_markAll {L0:Nat}{m:Mk}(h:InvM L0 0 m)(e:Nat)(who:List Nat)(hw: ∀x∈who,x<m.datas.length)(h16:who.length≤16): ∀i,i≤who.length→
 InvM L0 i (Mk.markAll e m (who.take i))∧m.b.length≤(Mk.markAll e m (who.take i)).b.length∧(Mk.markAll e m (who.take i)).b.length≤m.b.length+2100*i∧(Mk.markAll e m (who.take i)).datas.length=m.datas.length∧(Mk.markAll e m (who.take i)).C=m.C∧(Mk.markAll e m (who.take i)).h.N 9=m.h.N 9∧(Mk.markAll e m (who.take i)).h.N 8=m.h.N 8
 |0,_=>by
  rw[show Mk.markAll e m (who.take 0)=m by rw[List.take_zero];rfl]
  refine⟨h,jR _,?_,rfl,rfl,rfl,rfl⟩
  exact Nat.le_add_right _ _
 |i+1,hi=>by
  obtain⟨h1,h2,h3,h4,h5,h6,h7⟩:=inv_markAll h e who hw h16 i (by omega)
  rw[markAll_step e m who i (by omega)]
  obtain⟨k1,k2,k3,k4,k5,k6,k7⟩:=inv_mark h1 e who[i] (by rw[h4];exact hw _ (List.getElem_mem _)) (by omega)
  exact⟨k1,Nat.le_trans h2 k2,by omega,k4.trans h4,k5.trans h5,k6.trans h6,k7.trans h7⟩
theorem inv_told {m:Mk}(h:Inv (Mk.bump m))(n:Nat)(seq real mono:Int)(boot:Nat→Int)(te:Nat):Inv (Mk.told m n seq real mono boot te):=by
 refine inv_head h rfl rfl rfl rfl rfl rfl ?_
 unfold Mk.told Mk.bump
 dsimp only
 by_cases h0:n=0
 ·rw[if_pos h0]
  rintro i (rfl|rfl|rfl|rfl|rfl|rfl|rfl|rfl)<;>rfl
 ·rw[if_neg h0]
  rintro i (rfl|rfl|rfl|rfl|rfl|rfl|rfl|rfl)<;>rfl
end Nl
namespace Nm
open Bytes8 Blk8 Own8 OwnA OwnE Od Ga Ma Kf Mb Mc Md Mf Mg Fa Fb Dc Na Nc Nd Nh Nk
theorem arr_text {w:World}{F:Nat→Prop}{v:Value}{l:List Nat}(h:Arr w F v l){K:Nat}{s:ByteArray}{r:List Value}{T0:TypeId}(hK:Blk w K (.string s::r) T0):Arr w (fun b=>F b∨b=K) v l:=by
 obtain⟨A,n,c,e,hl,h⟩:=h
 refine⟨A,n,c,e,hl,fun i hi=>?_⟩
 obtain⟨b,h1,h2,h3,h4⟩:=h i hi
 refine⟨b,h1,h2,fun h5=>h5.elim h3 fun h6=>?_,h4⟩
 subst h6
 obtain⟨b2,k1,_,_,k4⟩:=h 0 (by omega)
 rw[h1]at k1
 injection k1 with k1
 injection k1 with k1
 subst k1
 rw[hK.cell (i:=0) rfl]at k4
 cases k4
theorem kf_set: ∀(l:List (Kn×Value)) (x:Nat),x<l.length→ ∀(k:Kn) (v:Value),kf (l.set x (k,v))=(((((kf l).set (x*5) (.string (T k.text))).set (x*5+1) (.int .u64 (k.at_:Int))).set (x*5+2) (.int .i64 (k.slot:Int))).set (x*5+3) (.int .i64 (k.count:Int))).set (x*5+4) v
 | [],x,h,_,_=>absurd h (Nat.not_lt_zero _)
 |p::l,0,_,k,v=>by
  have e: ∀(q:Kn×Value) (r:List (Kn×Value)),kf (q::r)=knC q.1 q.2++kf r:=fun q r=>by simp[kf]
  rw[List.set_cons_zero,e,e]
  rfl
 |p::l,x+1,h,k,v=>by
  have e: ∀(q:Kn×Value) (r:List (Kn×Value)),kf (q::r)=knC q.1 q.2++kf r:=fun q r=>by simp[kf]
  rw[List.set_cons_succ,e,e,kf_set l x (by simpa using h) k v]
  have e5:(x+1)*5=x*5+5:=by omega
  rw[e5,show x*5+5+1=x*5+1+5 by omega,show x*5+5+2=x*5+2+5 by omega,show x*5+5+3=x*5+3+5 by omega,show x*5+5+4=x*5+4+5 by omega]
  rfl
theorem ownE_set {E:TypeId}{size:Nat}{w:World}{base n c g:Nat}{xs:List Value}(h:OwnE E size w base (some ⟨g,0,none⟩) n c xs)(j:Nat)(u:Value):OwnE E size (w.setCell ⟨g,j,none⟩ u) base (some ⟨g,0,none⟩) n c (xs.set j u):=
 ⟨by simpa using h.1,(h.2.stored j u).1⟩
variable {w w' : World} {B g : Nat} {p p' : Pl} {m m' : Mk}
theorem At.setK (h:At w B g p m){K:Nat}{s:ByteArray}{r:List Value}{T0:TypeId}(hK:Blk w K (.string s::r) T0)(hf: ¬p.foot g K)(i:Nat)(v:Value):At (w.setCell ⟨K,i,none⟩ v) B g p m:=by
 have hk:=KeptF.set1 w K i v
 have off: ∀k,p.foot g k→ ¬One K k:=fun k h1 h2=>hf ((show k=K from h2)▸h1)
 exact
  {st:=⟨Kf.Blk.keptF h.st.st hk (off _ (.inl rfl)),Kf.Own.keptF h.st.own hk (fun k hk'=>off k (.inr (.inl (by injection hk' with e;exact e.symm)))),h.st.ne⟩
   dr:=Mf.OwnE.keptF h.dr hk (fun k e=>off k (.inr (.inr (.inl e))))
   fr:=Mf.OwnE.keptF h.fr hk (fun k e=>off k (.inr (.inr (.inr e))))
   dm:=h.dm,fm:=h.fm
   da:=fun q hq=>(arr_text (h.da q hq) hK).kept hk (fun b _ h1 h2=>h1 (.inr h2)) (fun b _ h1 h2=>h1 (.inl h2))
   ma:=(arr_text h.ma hK).kept hk (fun b _ h1 h2=>h1 (.inr h2)) (fun b _ h1 h2=>h1 (.inl h2))
   dg:=h.dg,fg:=h.fg,df:=h.df,gB:=h.gB,fo:=h.fo}
theorem At.setD (h:At w B g p m)(x:Nat)(hx:x<p.dl.length)(bD:Nat)(hD:p.D=some ⟨bD,0,none⟩)(k':Kn)(v':Value)(hv:Arr w (p.away B g) v' k'.arrays):
 At (w.setCells bD (x*5) (knC k' v')) B g {p with dl:=p.dl.set x (k',v')} {m with datas:=m.datas.set x k'}∧Path g p w {p with dl:=p.dl.set x (k',v')} (w.setCells bD (x*5) (knC k' v')):=by
 have hoD:ownB p.D=some bD:=by rw[hD];rfl
 have e:w.setCells bD (x*5) (knC k' v')=((((w.setCell ⟨bD,x*5,none⟩ (.string (T k'.text))).setCell ⟨bD,x*5+1,none⟩ (.int .u64 (k'.at_:Int))).setCell ⟨bD,x*5+2,none⟩ (.int .i64 (k'.slot:Int))).setCell ⟨bD,x*5+3,none⟩ (.int .i64 (k'.count:Int))).setCell ⟨bD,x*5+4,none⟩ v':=rfl
 have hk1:KeptF (One bD) w (w.setCells bD (x*5) (knC k' v')):=by
  rw[e]
  exact((((KeptF.set1 w bD _ _).setCell (p:=⟨bD,x*5+1,none⟩) (fun _=>rfl) _).setCell (p:=⟨bD,x*5+2,none⟩) (fun _=>rfl) _).setCell (p:=⟨bD,x*5+3,none⟩) (fun _=>rfl) _).setCell (p:=⟨bD,x*5+4,none⟩) (fun _=>rfl) _
 have hk:KeptF (p.foot g) w (w.setCells bD (x*5) (knC k' v')):=hk1.mono fun i hi=> .inr (.inr (.inl (by rw[show i=bD from hi];exact hoD)))
 refine⟨h.turn (p':={p with dl:=p.dl.set x (k',v')}) hk (fun _ h=> .inl h) ?_ ?_ ?_ ?_ h.fm ?_ (.inl ⟨rfl,rfl⟩) h.dg h.fg h.df (fun q hq=> .inl hq),⟨fun _ h=> .inl h,hk⟩⟩
 ·have h1:MkB (w.setCells bD (x*5) (knC k' v')) B g p.bb p.cb p.S m:=
   ⟨Kf.Blk.keptF h.st.st hk1 (fun h2=>(h.dg bD hoD).1 (show g=bD from h2).symm),Kf.Own.keptF h.st.own hk1 (fun j hj h2=>(h.dg bD hoD).2 (by injection hj with hj;exact((show j=bD from h2).symm.trans hj.symm))),h.st.ne⟩
  exact MkB.same h1 rfl rfl rfl rfl
 ·have h1:=h.dr
  rw[hD]at h1
  have h2:=ownE_set (ownE_set (ownE_set (ownE_set (ownE_set h1 (x*5) (.string (T k'.text))) (x*5+1) (.int .u64 (k'.at_:Int))) (x*5+2) (.int .i64 (k'.slot:Int))) (x*5+3) (.int .i64 (k'.count:Int))) (x*5+4) v'
  rw[←kf_set p.dl x hx k' v',←e,←hD]at h2
  exact h2
 ·exact Mf.OwnE.keptF h.fr hk1 (fun j hj h2=>h.df bD hoD ((show j=bD from h2)▸hj))
 ·show(p.dl.set x (k',v')).map Prod.fst=m.datas.set x k'
  rw[List.map_set,h.dm]
 ·intro q hq
  rcases List.mem_or_eq_of_mem_set (show q∈p.dl.set x (k',v')from hq)with h1|h1
  ·exact .inl h1
  ·right
   rw[h1]
   exact hv.kept hk (fun _ _ h h2=>h (.inl h2)) fun _ _ h=>h
end Nm
namespace No
open Bytes8 Blk8 Own8 OwnE Ob Od Ga Ma Kf Mb Mc Md Mf Mg Fb Dc Na Nc Nd Nh Nk Nm
theorem At.offB {w w':World}{B g:Nat}{p:Pl}{m:Mk}{G:Nat→Prop}(h:At w B g p m)(hk:KeptF G w w')(hG: ∀k,G k→k<B):At w' B g p m:=by
 have off: ∀k,p.foot g k→ ¬G k:=fun k hf hg=>by have h1:=(At.lt h k hf).1;have h2:=hG k hg;omega
 exact
  {st:=⟨Kf.Blk.keptF h.st.st hk (off _ (.inl rfl)),Kf.Own.keptF h.st.own hk (fun k hk'=>off k (.inr (.inl (by injection hk' with e;exact e.symm)))),h.st.ne⟩
   dr:=Mf.OwnE.keptF h.dr hk (fun k e=>off k (.inr (.inr (.inl e))))
   fr:=Mf.OwnE.keptF h.fr hk (fun k e=>off k (.inr (.inr (.inr e))))
   dm:=h.dm,fm:=h.fm
   da:=fun q hq=>(h.da q hq).kept hk (fun b _ h1 h2=>h1 (.inr (hG b h2))) (fun _ _ h=>h)
   ma:=h.ma.kept hk (fun b _ h1 h2=>h1 (.inr (hG b h2))) (fun _ _ h=>h)
   dg:=h.dg,fg:=h.fg,df:=h.df,gB:=h.gB,fo:=h.fo}
theorem keptF_setRow (w:World)(g:Nat)(cs:Array Value):KeptF (One g) w (w.setRow g cs):=by
 have hb:Below 0 w w:=Below.refl _ _
 refine⟨?_,?_,?_,?_,fun k hk hne=>?_⟩
 ·rfl
 ·rfl
 ·rfl
 ·simp
 ·exact setRow_other w g k cs hne
theorem At.restore {w:World}{B B2 g g2:Nat}{po:Pl}{m:Mk}(h:At w B2 g2 po m)(old:Array Value)(hg:w.heap[g]? =some (.cells old 164 (0,0)))(hgB:B≤g)(hg2:g<B2):
 At (w.setRow g (Mk.cells m {po.S with b:= .slice (some ⟨po.bb,0,none⟩) m.b.length po.cb}).toArray) B g po m:=by
 have hk:=keptF_setRow w g (Mk.cells m {po.S with b:= .slice (some ⟨po.bb,0,none⟩) m.b.length po.cb}).toArray
 have hlow:=At.lt h
 have hne: ∀k,po.foot g2 k→k≠g:=fun k hf e=>by have:=(hlow k hf).1;omega
 exact
  {st:=⟨setRow_heap _ g _ _ 164 (0,0) hg,Own.base (Kf.Own.keptF h.st.own hk (fun k hk' e=>hne k (.inr (.inl (by injection hk' with e;exact e.symm))) e)) (by omega),fun e=>hne po.bb (.inr (.inl rfl)) e.symm⟩
   dr:=ownE_base (Mf.OwnE.keptF h.dr hk (fun k e e2=>hne k (.inr (.inr (.inl e))) e2)) (by omega)
   fr:=ownE_base (Mf.OwnE.keptF h.fr hk (fun k e e2=>hne k (.inr (.inr (.inr e))) e2)) (by omega)
   dm:=h.dm,fm:=h.fm
   da:=fun q hq=>(h.da q hq).kept hk (fun b _ h1 h2=>h1 (.inr (by rw[show b=g from h2];exact hg2))) (fun b _ h1 h2=>h1 (h2.elim (fun h3=>h3.elim (fun h4=> .inr (by rw[h4];exact hg2)) (fun h4=> .inl (.inr h4))) (fun h3=> .inr (by omega))))
   ma:=h.ma.kept hk (fun b _ h1 h2=>h1 (.inr (by rw[show b=g from h2];exact hg2))) (fun b _ h1 h2=>h1 (h2.elim (fun h3=>h3.elim (fun h4=> .inr (by rw[h4];exact hg2)) (fun h4=> .inl (.inr h4))) (fun h3=> .inr (by omega))))
   dg:=fun k hk'=>⟨hne k (.inr (.inr (.inl hk'))),(h.dg k hk').2⟩
   fg:=fun k hk'=>⟨hne k (.inr (.inr (.inr hk'))),(h.fg k hk').2⟩
   df:=h.df,gB:=hgB,fo:=h.fo}
theorem set_I (m:Mk)(S:Sl)(k:Nat)(hk:k<64)(v:Int):(Mk.cells m S).set (55+k) (.int .u8 v)=Mk.cells {m with h:={m.h with I:=fun j=>if j=k then v else m.h.I j}} S:=by
 refine set_map _ _ _ _ _ ?_ fun j hj=>at_head _ _ _ _ rfl rfl fun h1 h2=>?_
 ·unfold Mk.at_
  rw[if_pos (by omega),if_neg (by omega)]
  unfold HD.at_
  rw[if_neg (by omega),if_pos (by omega)]
  dsimp only
  rw[if_pos (by omega)]
 ·unfold HD.at_
  dsimp only
  repeat' split
  all_goals first|rfl|(exfalso;omega)
variable {w : World} {B g : Nat} {p : Pl} {m : Mk}
theorem At.setI (h:At w B g p m)(k n:Nat)(hk:k<64)(hn:n=55+k)(v:Int):At (w.setCell ⟨g,n,none⟩ (.int .u8 v)) B g p {m with h:={m.h with I:=fun j=>if j=k then v else m.h.I j}}:=by
 subst hn
 exact Nk.At.head1 h _ _ _ fun S=>set_I m S k hk v
def upI (f:Nat→Int)(k:Nat)(v:Int):Nat→Int:=fun j=>if j=k then v else f j
theorem At.setI2 (I0:Nat→Int)(h:At w B g p {m with h:={m.h with I:=I0}})(k n:Nat)(hk:k<64)(hn:n=55+k)(v:Int):At (w.setCell ⟨g,n,none⟩ (.int .u8 v)) B g p {m with h:={m.h with I:=upI I0 k v}}:=At.setI h k n hk hn v
def upBoot (f K:Nat→Int):Nat→Int:=(upI (upI (upI (upI (upI (upI (upI (upI (upI (upI (upI (upI (upI (upI (upI (upI f 32 (K 0)) 33 (K 1)) 34 (K 2)) 35 (K 3)) 36 (K 4)) 37 (K 5)) 38 (K 6)) 39 (K 7)) 40 (K 8)) 41 (K 9)) 42 (K 10)) 43 (K 11)) 44 (K 12)) 45 (K 13)) 46 (K 14)) 47 (K 15))
theorem upBoot_is (f K:Nat→Int):upBoot f K=fun i=>if 32≤i∧i<48 then K (i-32)else f i:=by
 funext i
 unfold upBoot
 by_cases hi:32≤i∧i<48
 ·rw[if_pos hi]
  obtain⟨j,rfl⟩: ∃j,i=32+j:=⟨i-32,by omega⟩
  have hj:j<16:=by omega
  rcases j with _|_|_|_|_|_|_|_|_|_|_|_|_|_|_|_|j
  all_goals first|rfl|(exfalso;omega)
 ·rw[if_neg hi]
  unfold upI
  repeat rw[if_neg (by omega)]
theorem At.setBoot (h:At w B g p m)(K:Nat→Int):At (w.setCells g 87 [.int .u8 (K 0),.int .u8 (K 1),.int .u8 (K 2),.int .u8 (K 3),.int .u8 (K 4),.int .u8 (K 5),.int .u8 (K 6),.int .u8 (K 7),.int .u8 (K 8),.int .u8 (K 9),.int .u8 (K 10),.int .u8 (K 11),.int .u8 (K 12),.int .u8 (K 13),.int .u8 (K 14),.int .u8 (K 15)]) B g p {m with h:={m.h with I:=fun i=>if 32≤i∧i<48 then K (i-32)else m.h.I i}}:=by
 have h0:=At.setI2 m.h.I h 32 87 (by decide) rfl (K 0)
 have h1:=At.setI2 _ h0 33 88 (by decide) rfl (K 1)
 have h2:=At.setI2 _ h1 34 89 (by decide) rfl (K 2)
 have h3:=At.setI2 _ h2 35 90 (by decide) rfl (K 3)
 have h4:=At.setI2 _ h3 36 91 (by decide) rfl (K 4)
 have h5:=At.setI2 _ h4 37 92 (by decide) rfl (K 5)
 have h6:=At.setI2 _ h5 38 93 (by decide) rfl (K 6)
 have h7:=At.setI2 _ h6 39 94 (by decide) rfl (K 7)
 have h8:=At.setI2 _ h7 40 95 (by decide) rfl (K 8)
 have h9:=At.setI2 _ h8 41 96 (by decide) rfl (K 9)
 have h10:=At.setI2 _ h9 42 97 (by decide) rfl (K 10)
 have h11:=At.setI2 _ h10 43 98 (by decide) rfl (K 11)
 have h12:=At.setI2 _ h11 44 99 (by decide) rfl (K 12)
 have h13:=At.setI2 _ h12 45 100 (by decide) rfl (K 13)
 have h14:=At.setI2 _ h13 46 101 (by decide) rfl (K 14)
 have h15:=At.setI2 _ h14 47 102 (by decide) rfl (K 15)
 have e:=upBoot_is m.h.I K
 rw[←e]
 exact h15
theorem Path.setCells {g:Nat}{p p1:Pl}{w w1:World}(vs:List Value): ∀(o:Nat) (w1:World),Path g p w p1 w1→Path g p w p1 (w1.setCells g o vs):=by
 induction vs with
 |nil=>exact fun o w1 h=>h
 |cons v r ih=>exact fun o w1 h=>ih (o+1) _ (h.set o v)
theorem At.setNh (h0:HD)(h:At w B g p {m with h:=h0})(i k:Nat)(hi:i<20)(hk:k=119+i)(v:Int):At (w.setCell ⟨g,k,none⟩ (.int .u64 v)) B g p {m with h:=setN h0 i v}:=Nd.At.setN h i k hi hk v
theorem At.setBooth (h0:HD)(h:At w B g p {m with h:=h0})(K:Nat→Int):At (w.setCells g 87 [.int .u8 (K 0),.int .u8 (K 1),.int .u8 (K 2),.int .u8 (K 3),.int .u8 (K 4),.int .u8 (K 5),.int .u8 (K 6),.int .u8 (K 7),.int .u8 (K 8),.int .u8 (K 9),.int .u8 (K 10),.int .u8 (K 11),.int .u8 (K 12),.int .u8 (K 13),.int .u8 (K 14),.int .u8 (K 15)]) B g p {m with h:={h0 with I:=fun i=>if 32≤i∧i<48 then K (i-32)else h0.I i}}:=At.setBoot h K
theorem At.setTeh (h0:HD)(h:At w B g p {m with h:=h0})(v:Int):At (w.setCell ⟨g,141,none⟩ (.int .u64 v)) B g p {m with h:={h0 with te:=v}}:=Nk.At.setTe h v
theorem At.flat (h:At w B g p m):At w B g p {m with h:=m.h}:=h
end No
namespace Ns
open Bytes8 Blk8 Own8 OwnE LeA Ob Ga Ma Kf Mb Mc Mf Mg Fa Fb Yd Na Nb Nc Nd Nh Nl Pr8
def Free (i:Nat):Prop:=i=7∨i=8∨i=15∨i=16∨i=18∨i=19
structure HG (m:Mk):Prop where
 n0:m.h.N 0=272
 n3:m.h.N 3=16*(m.C.ds:Int)
 n5:m.h.N 5=16*(m.C.fs:Int)
 cp:m.h.cp=2
 ic:m.h.ic=0∨m.h.ic=4
 I: ∀i,0≤m.h.I i∧m.h.I i<256
 nb: ∀i,i=1∨i=6∨(9≤i∧i≤14)∨i=17∨20≤i→0≤m.h.N i∧m.h.N i≤18446744073709551615
 ta:0≤m.h.ta∧m.h.ta≤4294967295
 ti:0≤m.h.ti∧m.h.ti≤4294967295
 te:0≤m.h.te∧m.h.te≤18446744073709551615
theorem HG.turn {m m':Mk}(h:HG m)(hC:m'.C=m.C)(hcp:m'.h.cp=m.h.cp)(hic:m'.h.ic=m.h.ic)(hI:m'.h.I=m.h.I)(hta:m'.h.ta=m.h.ta)(hti:m'.h.ti=m.h.ti)(hte:m'.h.te=m.h.te)
 (hN: ∀i,¬Free i→i≠6→m'.h.N i=m.h.N i)(h6:0≤m'.h.N 6∧m'.h.N 6≤18446744073709551615):HG m':=
 {n0:=by rw[hN 0 (by unfold Free;omega) (by decide)];exact h.n0
  n3:=by rw[hN 3 (by unfold Free;omega) (by decide),hC];exact h.n3
  n5:=by rw[hN 5 (by unfold Free;omega) (by decide),hC];exact h.n5
  cp:=hcp.trans h.cp
  ic:=by rw[hic];exact h.ic
  I:=by rw[hI];exact h.I
  nb:=fun i hi=>by
   by_cases e:i=6
   ·rw[e];exact h6
   ·rw[hN i (by unfold Free;omega) e];exact h.nb i hi
  ta:=by rw[hta];exact h.ta
  ti:=by rw[hti];exact h.ti
  te:=by rw[hte];exact h.te}
theorem HG.bytes {m m':Mk}(h:HG m)(hC:m'.C=m.C)(hh:m'.h=m.h):HG m':=
 h.turn hC (by rw[hh]) (by rw[hh]) (by rw[hh]) (by rw[hh]) (by rw[hh]) (by rw[hh]) (fun i _ _=>by rw[hh]) (by rw[hh];exact h.nb 6 (by omega))
theorem hg_object {m:Mk}(h:HG m)(l:List Int)(hl:m.b.length≤10000000):HG (m.object l):=
 h.turn rfl rfl rfl rfl rfl rfl rfl (fun i hf h6=>by
  show(setN (setN m.h 6 _) 7 _).N i=_
  rw[setN_ne _ _ _ _ (by intro e;exact hf (by unfold Free;omega)),setN_ne _ _ _ _ h6]) (by
  show 0≤(setN (setN m.h 6 _) 7 _).N 6∧(setN (setN m.h 6 _) 7 _).N 6≤_
  rw[setN_ne _ _ _ _ (by decide),setN_same]
  omega)
theorem hg_setN {m:Mk}(h:HG m)(i:Nat)(v:Int)(hi:Free i):HG {m with h:=setN m.h i v}:=
 h.turn rfl rfl rfl rfl rfl rfl rfl (fun j hf h6=>setN_ne _ _ _ _ (fun e=>hf (e▸hi))) (by
  show 0≤(setN m.h i v).N 6∧(setN m.h i v).N 6≤_
  rw[setN_ne _ _ _ _ (by intro e;unfold Free at hi;omega)]
  exact h.nb 6 (by omega))
theorem hg_put1 {m:Mk}(h:HG m)(s:List Int)(hl:m.b.length≤10000000):HG (Mk.put1 m s):=
 HG.bytes (m:={m.object (Mk.dobj m s)with h:=setN (setN (m.object (Mk.dobj m s)).h 19 (max (m.h.N 19) (inSlot m.datas (Mk.dslot m s):Nat))) 15 (m.h.N 15+1)}) (hg_setN (hg_setN (hg_object h _ hl) 19 _ (by unfold Free;omega)) 15 _ (by unfold Free;omega)) rfl rfl
theorem hg_named {m:Mk}(h:HG m)(ks:List Kn)(tf:Nat)(s:List Int)(hl:m.b.length≤10000000):HG (Mk.named m ks tf s):=
 HG.bytes (m:={m.object (Mk.fobj m s)with h:=setN (m.object (Mk.fobj m s)).h 16 (m.h.N 16+1)}) (hg_setN (hg_object h _ hl) 16 _ (by unfold Free;omega)) rfl rfl
theorem hg_fieldOf {m:Mk}(h:HG m)(s:List Int)(hl:m.b.length≤10000000):HG (Mk.fieldOf m s).2:=by
 unfold Mk.fieldOf
 split
 ·exact h
 ·exact hg_named h _ _ _ hl
theorem eobj_len (m:Mk)(who:List Nat)(ps:List (List Int))(s r mo:Int)(K:Nat→Int):(Mk.eobj m who ps s r mo K).length=16+(48+16*who.length):=by
 unfold Mk.eobj
 rw[objB_len,entB_len]
 unfold padN
 omega
theorem hg_dataNew {m:Mk}(h:HG m)(I:Inv m)(nm s:List Int)(hs:AllB s)(hsl:s.length≤400)(hl:m.b.length≤9000000):HG (Mk.dataNew m nm s):=by
 have l1:=put1_len I s
 obtain⟨d1,d2,d3⟩:=dobj_len m s
 exact HG.bytes (m:=(Mk.fieldOf (Mk.put1 m s) nm).2) (hg_fieldOf (hg_put1 h s (by omega)) nm (by omega)) rfl rfl
theorem hg_dataOf {m:Mk}(h:HG m)(I:Inv m)(nm s:List Int)(hs:AllB s)(hsl:s.length≤400)(hl:m.b.length≤9000000):HG (Mk.dataOf m nm s).2:=by
 unfold Mk.dataOf
 split
 ·exact h
 ·exact hg_dataNew h I nm s hs hsl hl
theorem hg_dataAll {m:Mk}(h:HG m)(I:Inv m)(l:List PR)(hl: ∀q∈l,AllB q.1∧AllB q.2∧q.1.length≤64∧q.2.length≤256)(h16:l.length≤16)(hb:m.b.length≤1000000): ∀k,k≤l.length→HG (Mk.dataAll m (l.take k)).1
 |0,_=>h
 |k+1,hk=>by
  obtain⟨h1,h2,h3,h4,h5⟩:=inv_dataAll I l hl k (by omega)
  obtain⟨q1,q2,q3,q4⟩:=hl l[k] (List.getElem_mem _)
  have hp:(pay l[k].1 l[k].2).length≤400:=by rw[Nee.pay_len];omega
  rw[dataAll_step m l k (by omega)]
  exact hg_dataOf (hg_dataAll h I l hl h16 hb k (by omega)) h1 _ _ (pay_all q1 q2) hp (by omega)
theorem hg_link {m:Mk}(h:HG m)(arr:List Nat)(n fr item:Nat)(hl:m.b.length≤10000000):HG (Mk.link m arr n fr item).1:=by
 unfold Mk.link
 split
 ·exact HG.bytes (m:={m.object (aobj arr.length)with h:=setN (m.object (aobj arr.length)).h 18 (m.h.N 18+1)}) (hg_setN (hg_object h _ hl) 18 _ (by unfold Free;omega)) rfl rfl
 ·exact h.bytes rfl rfl
theorem chain_bds {L:Nat}{arr:List Nat}{n:Nat}(h:Chain L arr n):arr.getD 0 0≤L∧arr.getLastD 0≤L:=by
 by_cases he:arr=[]
 ·subst he
  exact⟨Nat.zero_le _,Nat.zero_le _⟩
 ·have hp:=List.length_pos_iff.2 he
  have h1:=h.fits 0 hp
  have h2:=chain_last h he
  rw[List.getD_eq_getElem?_getD,List.getElem?_eq_getElem hp]
  exact⟨by show arr[0]≤L;omega,by omega⟩
theorem hg_linked {m:Mk}(h:HG m)(I:Inv m)(item n:Nat)(hc:Chain m.b.length m.main n)(hl:m.b.length≤1000000)(h176:184≤m.b.length):HG (Mk.linked m item n):=by
 obtain⟨k1,k2,k3,k4,k5,k6,k7,k8,k9,k10,k11,k12⟩:=inv_link I (fr:=176) item hc (by omega)
 obtain⟨c1,c2⟩:=chain_bds k2
 have hL:=hg_link h m.main n 176 item (by omega)
 exact
  {n0:=hL.n0,n3:=hL.n3,n5:=hL.n5,cp:=hL.cp,ic:=hL.ic,I:=hL.I,te:=hL.te
   nb:=fun i hi=>by
    show 0≤(setN (Mk.link m m.main n 176 item).1.h 11 _).N i∧(setN (Mk.link m m.main n 176 item).1.h 11 _).N i≤_
    by_cases e:i=11
    ·subst e
     rw[setN_same]
     omega
    ·rw[setN_ne _ _ _ _ e]
     exact hL.nb i hi
   ta:=by
    show 0≤(((Mk.link m m.main n 176 item).2.1.getLastD 0:Nat):Int)∧(((Mk.link m m.main n 176 item).2.1.getLastD 0:Nat):Int)≤_
    omega
   ti:=by
    show 0≤(((Mk.link m m.main n 176 item).2.2:Nat):Int)∧(((Mk.link m m.main n 176 item).2.2:Nat):Int)≤_
    omega}
theorem hg_mark {m:Mk}(h:HG m)(e j:Nat)(hl:m.b.length≤10000000):HG (Mk.mark e m j):=by
 rw[mark_is]
 refine HG.bytes (m:=(Mk.hitched e m j).1) ?_ rfl rfl
 unfold Mk.hitched
 split
 ·exact h.bytes rfl rfl
 ·exact hg_link h _ _ _ _ hl
theorem hg_markAll {L0:Nat}{m:Mk}(g:HG m)(h:InvM L0 0 m)(e:Nat)(who:List Nat)(hw: ∀x∈who,x<m.datas.length)(h16:who.length≤16)(hl:m.b.length≤1000000): ∀i,i≤who.length→HG (Mk.markAll e m (who.take i))
 |0,_=>by rw[show Mk.markAll e m (who.take 0)=m by rw[List.take_zero];rfl];exact g
 |i+1,hi=>by
  obtain⟨h1,h2,h3,h4,h5,h6,h7⟩:=inv_markAll h e who hw h16 i (by omega)
  rw[markAll_step e m who i (by omega)]
  exact hg_mark (hg_markAll g h e who hw h16 hl i (by omega)) e _ (by omega)
theorem told_N (m:Mk)(n:Nat)(seq real mono:Int)(boot:Nat→Int)(te:Nat)(i:Nat)(h8:i≠8):(Mk.told m n seq real mono boot te).h.N i=if i=14 then mono else if i=13 then real else if i=9 then seq else if n=0∧i=12 then real else if n=0∧i=10 then seq else m.h.N i:=by
 unfold Mk.told setN
 dsimp only
 by_cases h14:i=14
 ·simp[h14]
 rw[if_neg h14,if_neg h14]
 by_cases h13:i=13
 ·simp[h13]
 rw[if_neg h13,if_neg h13]
 by_cases h9:i=9
 ·simp[h9]
 rw[if_neg h9,if_neg h9,if_neg h8]
 by_cases hn:n=0
 ·simp[hn]
 ·simp[hn]
theorem hg_told {m:Mk}(h:HG m)(n:Nat)(seq real mono:Int)(K:Nat→Int)(te:Nat)(hs:0≤seq∧seq≤18446744073709551615)(hr:0≤real∧real≤18446744073709551615)(hm:0≤mono∧mono≤18446744073709551615)(hK:IdOk K)(ht:te≤10000000):HG (Mk.told m n seq real mono K te):=by
 have hst: ∀i,i≠8→i≠14→i≠13→i≠9→i≠12→i≠10→(Mk.told m n seq real mono K te).h.N i=m.h.N i:=fun i a b c d e f=>by
  rw[told_N _ _ _ _ _ _ _ _ a,if_neg b,if_neg c,if_neg d,if_neg (fun x=>e x.2),if_neg (fun x=>f x.2)]
 exact
  {n0:=(hst 0 (by decide) (by decide) (by decide) (by decide) (by decide) (by decide)).trans h.n0
   n3:=(hst 3 (by decide) (by decide) (by decide) (by decide) (by decide) (by decide)).trans h.n3
   n5:=(hst 5 (by decide) (by decide) (by decide) (by decide) (by decide) (by decide)).trans h.n5
   cp:=by
    have e:(Mk.told m n seq real mono K te).h.cp=m.h.cp:=by unfold Mk.told;dsimp only;split<;>rfl
    rw[e];exact h.cp
   ic:=by
    have e:(Mk.told m n seq real mono K te).h.ic=m.h.ic:=by unfold Mk.told;dsimp only;split<;>rfl
    rw[e];exact h.ic
   I:=fun i=>by
    have e:(Mk.told m n seq real mono K te).h.I i=if 32≤i∧i<48 then K (i-32)else m.h.I i:=by
     unfold Mk.told
     by_cases h0:n=0
     ·rw[if_pos h0];rfl
     ·rw[if_neg h0];rfl
    rw[e]
    split
    ·exact hK _
    ·exact h.I i
   nb:=fun i hi=>by
    rw[told_N _ _ _ _ _ _ _ _ (by omega)]
    repeat' split
    all_goals first|assumption|exact h.nb i hi
   ta:=by
    have e:(Mk.told m n seq real mono K te).h.ta=m.h.ta:=by unfold Mk.told;dsimp only;split<;>rfl
    rw[e];exact h.ta
   ti:=by
    have e:(Mk.told m n seq real mono K te).h.ti=m.h.ti:=by unfold Mk.told;dsimp only;split<;>rfl
    rw[e];exact h.ti
   te:=by
    show 0≤(te:Int)∧(te:Int)≤_
    omega}
theorem entered_good {m:Mk}(h:Inv m)(g:HG m)(L:List PR)(hl: ∀q∈L,AllB q.1∧AllB q.2∧q.1.length≤64∧q.2.length≤256)(h16:L.length≤16)(hb:m.b.length≤32768)(real mono:Int)(K:Nat→Int)
 (hr:0≤real∧real≤18446744073709551615)(hm:0≤mono∧mono≤18446744073709551615)(hK:IdOk K)(h9:m.h.N 9≠18446744073709551615):
 Inv (Mk.entered m L real mono K)∧HG (Mk.entered m L real mono K)∧(Mk.entered m L real mono K).C=m.C∧(Mk.entered m L real mono K).b=(Mk.grown m L real mono K).b∧(Mk.entered m L real mono K).h.N 9=m.h.N 9+1:=by
 have n9:=g.nb 9 (by omega)
 obtain⟨i1,i2,i3,i4,i5⟩:=inv_dataAll h L hl L.length (jR _)
 have gd:=hg_dataAll g h L hl h16 (by omega) L.length (jR _)
 rw[List.take_length]at i1 i2 i3 i4 i5 gd
 unfold Mk.entered Mk.grown
 dsimp only
 generalize hmd:Mk.dataAll m L=s at*
 obtain⟨md,who⟩:=s
 dsimp only at*
 obtain⟨n8,hn8,hch8,hn8b⟩:=i1.mn
 have hel:(Mk.eobj md who (L.map fun q=>pay q.1 q.2) (m.h.N 9+1) real mono K).length%8=0∧0<(Mk.eobj md who (L.map fun q=>pay q.1 q.2) (m.h.N 9+1) real mono K).length∧(Mk.eobj md who (L.map fun q=>pay q.1 q.2) (m.h.N 9+1) real mono K).length≤400∧64≤(Mk.eobj md who (L.map fun q=>pay q.1 q.2) (m.h.N 9+1) real mono K).length:=by
  have e:=eobj_len md who (L.map fun q=>pay q.1 q.2) (m.h.N 9+1) real mono K
  omega
 generalize Mk.eobj md who (L.map fun q=>pay q.1 q.2) (m.h.N 9+1) real mono K=eo at*
 obtain⟨e1,e2,e3,e4⟩:=hel
 have I2:=inv_object i1 eo e1 e2
 have G2:=hg_object gd eo (by omega)
 have hol:=object_len md eo
 have hC2:Chain (md.object eo).b.length (md.object eo).main n8:=hch8.mono (by omega)
 have hn2:(md.object eo).h.N 8=(n8:Int):=hn8
 have h304:=i1.len
 have e8:(m.h.N 8).toNat=n8:=by rw[←i5.n8,hn8];rfl
 rw[e8]
 obtain⟨g1,g2,g3,g4,g5,g6,g7⟩:=inv_linked I2 md.b.length n8 hn2 hC2 (by omega) (by omega)
 have G3:=hg_linked G2 I2 md.b.length n8 hC2 (by omega) (by omega)
 generalize Mk.linked (md.object eo) md.b.length n8=mL at*
 have hM0:InvM md.b.length 0 mL:=⟨g1,fun k' hk'=>by rw[g4]at hk';exact(i1.dat k' hk').2.2.2.2,by omega⟩
 have hw: ∀y∈who,y<mL.datas.length:=fun y hy=>by rw[g4];exact i3 y hy
 obtain⟨k1,k2,k3,k4,k5,k6,k7⟩:=inv_markAll hM0 md.b.length who hw (by omega) who.length (jR _)
 have G4:=hg_markAll G3 hM0 md.b.length who hw (by omega) (by omega) who.length (jR _)
 rw[List.take_length]at k1 k2 k3 k4 k5 k6 k7 G4
 refine⟨inv_told k1.inv _ _ _ _ _ _,hg_told G4 _ _ _ _ _ _ (by omega) hr hm hK (by omega),?_,rfl,?_⟩
 ·show(Mk.markAll md.b.length mL who).C=m.C
  rw[k5,g5]
  exact i5.C
 ·rw[told_N _ _ _ _ _ _ _ _ (by decide)]
  simp
end Ns
end Go.Proofs.YtelmgldkgccecaaGreat
