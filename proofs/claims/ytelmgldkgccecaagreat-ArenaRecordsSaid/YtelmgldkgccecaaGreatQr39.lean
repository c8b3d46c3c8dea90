/-
  Texts beneath the proof.
-/
import Derived.Test.YtelmgldkgccecaaGreatQr38
import Derived.Test.YtelmgldkgccecaaGreatQr34
import Derived.Test.YtelmgldkgccecaaGreatQr3
set_option linter.unusedVariables false
set_option linter.unusedSimpArgs false
set_option maxRecDepth 100000
set_option maxHeartbeats 16000000
open Go.ChangeShapes Go.WideShapes Go.ChangeAt Go.RowKit
namespace Go.Proofs.YtelmgldkgccecaaGreat
namespace ArenaRecordsW
open Bytes8 Blk8 Own8 OwnM OwnE Rows2 Od Og Ga Gb Gj Ma Mb Mh Na Np Nr Ns Nt Nu Ra Rc Rn Ro Rp Rr Pr8 Ps8 Pl8 Zb Zg Zj Zl Zs Zu Zv Seq8 Kf
open Go1 (hcode HTold)
open Za (obj O)
open Dc (OwnE.ltB)
open OwnA
open Yg
attribute [local irreducible] HD.cells in
theorem head_size (H:HD)(w:World):(Instr.field 59 (.agg (H.cells 21).toArray) 7).run Tryz.prog w= .ok (.int .u64 (H.N 0)) w:=by
 have hc:(H.cells 21)[67]? =some (.int .u64 (H.N 0)):=H.get_N 21 0 (by decide)
 simp[go_sem,Instr.field,part,isAgg,asAgg,underlying,Tryz.underlying59,Tryz.underlying23,hc]
theorem list_mem {L:List PR}(h:listE L=0)(x:PR):x∈listL L↔x∈L:=by
 unfold listL
 rw[if_pos h,sortP_mem,ded_mem]
structure Got (w:World)(B0:Nat)(A:Option Addr)(n c:Nat)(xs:List Value)(b0:Int)(rs:List RR):Prop where
 own:OwnE 67 20 w B0 A n c xs
 le:n≤rs.length
 at_: ∀i (h:i<rs.length),i<n→ ∃(F:Option Addr) (k cc:Nat) (pl:List PR),(xs.drop (20*i)).take 20=recL (b0+i+1) rs[i].2.1 rs[i].2.2.1 rs[i].2.2.2 (.slice F k cc)∧pl.length=k∧k≤1000000∧Prs w F pl∧(∀x,x∈pl↔x∈rs[i].1)∧ ∀b off,F=some ⟨b,off,none⟩→0<k→b<w.heap.size∧ownB A≠some b
theorem Got.below {w w':World}{B0:Nat}{A:Option Addr}{n c:Nat}{xs:List Value}{b0:Int}{rs:List RR}(h:Got w B0 A n c xs b0 rs)(k:Below w.heap.size w w'):Got w' B0 A n c xs b0 rs:=
 ⟨h.own.kept k (Nat.le_refl _),h.le,fun i hi hn=>by
   obtain⟨F,m,cc,pl,e1,e2,e3,e4,e5,e6⟩:=h.at_ i hi hn
   exact⟨F,m,cc,pl,e1,e2,e3,e4.below k,e5,fun b off e h0=>⟨Nat.lt_of_lt_of_le (e6 b off e h0).1 k.size,(e6 b off e h0).2⟩⟩⟩
theorem Got.snoc {w w':World}{B0:Nat}{A A':Option Addr}{n c c':Nat}{xs:List Value}{b0:Int}{rs:List RR}(h:Got w B0 A n c xs b0 rs)(hn:n<rs.length){F:Option Addr}{k cc:Nat}{pl:List PR}{s r m:Int}{K:Nat→Int}(e1:recL s r m K (.slice F k cc)=recL (b0+n+1) rs[n].2.1 rs[n].2.2.1 rs[n].2.2.2 (.slice F k cc))(e2:pl.length=k)(e3:k≤1000000)(e4:Prs w F pl)(e5: ∀x,x∈pl↔x∈rs[n].1)(e6: ∀b off,F=some ⟨b,off,none⟩→0<k→b<w.heap.size∧ownB A≠some b)
 (ho:OwnE 67 20 w' B0 A' (n+1) c' (xs++recL s r m K (.slice F k cc)))(hg:w.grownBy w' (ownB A))(hA:ownB A'=ownB A∨(ownB A'=some w.heap.size∧w.grownBy w' none)):Got w' B0 A' (n+1) c' (xs++recL s r m K (.slice F k cc)) b0 rs:=by
 have h20:(recL s r m K (.slice F k cc)).length=20:=rfl
 have hl:=OwnE.len h.own
 have off: ∀ {F:Option Addr} {k:Nat},(∀b off,F=some ⟨b,off,none⟩→0<k→b<w.heap.size∧ownB A≠some b)→ ∀b off,F=some ⟨b,off,none⟩→0<k→b<w'.heap.size∧ownB A'≠some b:=fun hF b off e h0=>by
  obtain⟨f1,f2⟩:=hF b off e h0
  refine⟨Nat.lt_of_lt_of_le f1 hg.size,fun e2=>?_⟩
  rcases hA with h1|⟨h1,_⟩
  ·exact f2 (h1▸e2)
  ·rw[h1]at e2
   injection e2 with e2
   omega
 have prs: ∀ {F:Option Addr} {k:Nat} {pl:List PR},Prs w F pl→pl.length=k→(∀b off,F=some ⟨b,off,none⟩→0<k→b<w.heap.size∧ownB A≠some b)→Prs w' F pl:=fun {F k pl} hp hk hF=>by
  rcases Nat.eq_zero_or_pos k with h0|h0
  ·rw[List.eq_nil_of_length_eq_zero (show pl.length=0 by omega)]
   exact Prs.nil _ _
  ·exact hp.keptB hg.size fun b off e hb=>hg.block b hb fun e2=>(hF b off e h0).2 e2.symm
 refine⟨ho,hn,fun i hi hin=>?_⟩
 by_cases hlast:i<n
 ·obtain⟨F2,m2,cc2,pl2,q1,q2,q3,q4,q5,q6⟩:=h.at_ i hi hlast
  refine⟨F2,m2,cc2,pl2,?_,q2,q3,prs q4 q2 q6,q5,off q6⟩
  rw[List.drop_append_of_le_length (by omega),List.take_append_of_le_length (by rw[List.length_drop];omega)]
  exact q1
 ·have hi3:i=n:=by omega
  subst hi3
  refine⟨F,k,cc,pl,?_,e2,e3,prs e4 e2 e6,e5,off e6⟩
  rw[List.drop_left' (by omega),List.take_of_length_le (by rw[h20];exact Nat.le_refl _)]
  exact e1
theorem own_rec {w:World}{B0 n c:Nat}{A:Option Addr}{xs:List Value}(h:OwnE 67 20 w B0 A n c xs){i:Nat}(hi:i<n){s r m:Int}{K:Nat→Int}{F:Option Addr}{k cc:Nat}{l:List PR}(e:(xs.drop (20*i)).take 20=recL s r m K (.slice F k cc))(hp:Prs w F l)(hl:l.length=k)(hk:k≤1000000):RecAt w A i s r m K l:=by
 have hn:=OwnE.len h
 obtain⟨b,rfl,_,hb,_⟩:=OwnE.cell h (i:=20*i) (by omega)
 refine⟨b,F,k,cc,rfl,hb,fun j v hj=>?_,hp,hl,hk⟩
 rw[←e]at hj
 rw[Nat.mul_comm i 20]
 have hj2:j<20:=by
  have:=(List.getElem?_eq_some_iff.1 hj).1
  rw[List.length_take]at this;omega
 rw[List.getElem?_take_of_lt hj2,List.getElem?_drop]at hj
 obtain⟨b2,h1,_,_,h2⟩:=OwnE.cell h (i:=20*i+j) (List.getElem?_eq_some_iff.1 hj).1
 injection h1 with h1
 injection h1 with h1
 subst h1
 exact h2.trans hj
attribute [local irreducible] HD.cells wpList Code.wp
theorem walk_main (a:Option Addr)(len cap:Nat)(f:Nat→Int)(w:World)(hI:InInts .i64 w a len f)(hl:len≤120):
 Calls Tryz.prog 4 #[.slice a len cap] w fun e w'=>e= .returned (.bool true)∧Below w.heap.size w w':=by
 have d1:decide ((120:Int)<(len:Int))=false:=by simp;omega
 have HI:=Lib.hid hI
 clear hI
 go_enter Tryz.func4,Tryz.ntmps4
 go_upto_region 6 with(go_at_call 11;((with_reducible refine(first_arena _).mono ?_);rintro e w1 ⟨rfl,hb1⟩;have B1:=Lib.hid hb1;clear hb1))
 clear d1
 have HI1:=Lib.hid (HI.out.below B1.out)
 have Q1:=Lib.hid (show SeqIn (w1.alloc (.cells #[.slice a len cap,.int .i64 0] 53)) w1.heap.size a len cap f 0 from⟨Blk.new w1 [.slice a len cap,.int .i64 0] _,HI1.out.below ((Below.refl _ _).alloc (Nat.le_refl _) _),fun h0 b off e=>by obtain⟨b',off',e',h1,_⟩:=HI1.out 0 h0;rw[e]at e';injection e' with e';injection e' with e';omega,Nat.zero_le _,by omega⟩)
 have b1:=Lib.hid ((Below.refl w1.heap.size w1).alloc (Nat.le_refl _) (.cells #[.slice a len cap,.int .i64 0] 53))
 have HM:=Lib.hid (makerR_any w1.heap.size a len cap f 0 12 _ Q1.out (by decide))
 unfold MadeR at HM
 go_upto_region 7 with(first
  |(go_at_call 23;(refine HM.out.mono ?_);rintro e w2 ⟨g,Aw,n,cw,B,p,m,rs,xw,b0,rfl,hB,hat,hgd,hk,hrw,hrc,hrl,hn9,hro⟩;have HA:=Lib.hid hat;have HG:=Lib.hid hgd;have HK:=Lib.hid hk;have HRw:=Lib.hid hrw;have HRc:=Lib.hid hrc;have HRl:=Lib.hid hrl;have HN9:=Lib.hid hn9;have HRo:=Lib.hid hro;clear hat hgd hk hrw hrc hrl hn9 hro)
  |fail)
 have hI:=HG.out.img
 obtain⟨l1,l2,l3⟩:=hI.lens
 have hn30:=HG.out.le
 obtain⟨os,hs,mi,es,hkept,hrecs⟩:=kept_recs HRc.out
 have HMl:=Lib.hid (show mi.length=n by rw[hkept.len,HRl.out])
 have ht:(0:Int)≤0∧(0:Int)≤2:=by decide
 have HIm:=Lib.hid (image_any B g p.bb p.cb p.S m 0 w2 HA.out.st (by omega) (st_head hI ht) (by have:=hI.inv.dep;omega))
 unfold Owned at HIm
 obtain⟨E,hE⟩: ∃E,m.b.length=E:=⟨_,rfl⟩
 have hlen:=st_len hI 0
 have hz:=st_hcode hI ht
 obtain⟨he1,he2⟩:=st_end hI ht
 have hsr:=fun i hi=>st_rec hkept hrecs ht i hi
 have hsl:(HD.plus (Mk.head m 0) (m.depth:Int)).bytes 21++m.b.drop 272=stL m 0:=rfl
 rw[hsl]at HIm
 have hrd:=fun(a:Nat) (o:O) (ho:obj 272 os a=some o)=>st_read (st:=0) hkept ho
 have hN0:(hdOf (stL m 0)).N 0=272:=by
  have e0:=((st_says hI ht).N 0 (by decide)).trans (stH_N m 0 0 (by decide))
  rw[if_neg (by decide),hI.hg.n0]at e0
  exact e0
 have hend:=kept_end hkept
 have hcf:=cut_first hkept
 have hce:=fun(c:Nat)=>cut_end (c:=c) hkept
 have hco:=fun(a c:Nat) (o:O)=>cut_other (a:=a) (c:=c) (o:=o) hkept
 have hcn:=fun(a c:Nat) (o:O)=>cut_entry (a:=a) (c:=c) (o:=o) hkept
 have hE0:E≤300000:=by omega
 rw[hE]at hlen hz he1 hsr HIm hend hrd hce
 generalize stL m 0=l at*
 have HOp:=Lib.hid fun(A:Option Addr) (c:Nat) (W:World) (hb:Bytes W A l) (hc:E≤c)=>by
  have k:=open_fine l A E c W hb hlen (by omega) hc hz E he1 he2 (Nat.le_refl _) (hdOf_ok hb.1 21)
  unfold Opened at k
  rw[List.take_of_length_le (by omega)]at k
  exact k
 have HRec:=Lib.hid fun(x:Nat) (hx:x<rs.length) (W:World) (gv:Nat) (A:Option Addr) (c:Nat) (v:ViewAt W gv (hdOf l) A E c l) (hc:c≤maxLen)=>show Calls Tryz.prog 27 #[.pointer (some ⟨gv,0,none⟩),.int .u64 ((mi.getD x 0:Nat):Int)] W fun e w'=> ∃F c k pl,e= .returned (.tuple #[.agg (recL (b0+x+1) rs[x].2.1 rs[x].2.2.1 rs[x].2.2.2 (.slice F k c)).toArray,.int .i64 0])∧pl.length=k∧k≤1000000∧Prs w' F pl∧(∀y,y∈pl↔y∈rs[x].1)∧Below W.heap.size W w'∧NewIn W.heap.size F from by
  obtain⟨s1,s2,s3,s4,s5,s6⟩:=hsr x hx
  have hok:=recP_ok (hdOf l) E (mi.getD x 0) v.by_.1
  refine(recAsk (mi.getD x 0) W v hc (by omega)).mono ?_
  rintro e w' ⟨hb,⟨hz1,rfl⟩|⟨hz1,F,c2,rfl,hp,hnw⟩⟩
  ·exact absurd s1 hz1
  unfold recP at s2 s3 s4 s5 s6 hok
  rw[if_pos s1]at s2 s3 s4 s5 s6 hok
  dsimp only at s2 s3 s4 s5 s6
  refine⟨F,c2,_,_,?_,hok.len,hok.n,hp,fun y=>(s6 y).trans (list_mem (hrecs.ok _ (List.getElem_mem hx)).list y),hb,hnw⟩
  rw[s2,s3,s4,recL_cong s5,show m.h.N 9-(rs.length:Int)+(x:Int)+1=b0+x+1 by have h1:=HN9.out;have h2:=HRl.out;omega]
 have HSc:=Lib.hid fun(y:Nat×Nat) (hy:y.1<rs.length)=>hrecs.ok _ (List.getElem_mem hy)
 have HRd:=Lib.hid hrd
 have HEnd:=Lib.hid hend
 have HCf:=Lib.hid hcf
 have HCe:=Lib.hid hce
 have HCo:=Lib.hid hco
 have HCn:=Lib.hid hcn
 have B2:=Lib.hid (B1.out.trans ((b1.out.trans (KeptB.below (HK.out.mono b1.out.size) (Nat.le_refl _))).mono B1.out.size))
 clear Q1 HM b1 HI HI1 hsl hz he1 he2 hsr hI hkept hrecs HRc HN9 HG HK l1 l2 l3 ht HA hrd hend hcf hce hco hcn
 go_upto_region 9 with(first
  |(go_at_call 24;(refine HIm.out.mono ?_);rintro e w3 ⟨A3,c3,rfl,ho3,hb3⟩;have HO3:=Lib.hid ho3.bytes;have HC3:=Lib.hid (own_cap ho3);have B3:=Lib.hid hb3;clear ho3 hb3)
  |(go_at_call 14;(refine(HOp.out _ _ _ HO3.out HC3.out.1).mono ?_);rintro e w4 ⟨gv,A9,c9,rfl,_,hv,hc9,hb4⟩;have HV:=Lib.hid hv;have HC9:=Lib.hid hc9;have B4:=Lib.hid (B3.out.trans (hb4.mono B3.out.size));have HO4:=Lib.hid (HO3.out.below hb4 (Nat.le_refl _));clear hv hb4 hc9)
  |fail)
 have HRo4:=Lib.hid (HRo.out.step (KeptF.of_below (F:=fun _=>False) B4.out) (fun _ _ h=>h.elim) (fun _ _ h=>h) (fun _ _ h=>h))
 have HRw4:=Lib.hid (HRw.out.own.kept B4.out (Nat.le_refl _))
 have HHd:=Lib.hid (vhead_any w4 HV.out.blk)
 have hfd:=fun W=>head_size (hdOf l) W
 rw[hN0]at hfd
 clear HIm HOp HRo HRw HO3 hN0
 generalize hdOf l=H at*
 go_upto_region 12 with fail
 go_upto_region 13 with(first
  |(go_at_call 25;(refine HHd.out.mono ?_);rintro e w6 ⟨rfl,hb6⟩;have hb56:=Lib.hid hb6;have B6:=Lib.hid (B4.out.trans (hb6.mono B4.out.size));clear hb6)
  |fail)
 have S6:=Lib.hid (Below.refl w6.heap.size w6)
 have HV6:=Lib.hid (HV.out.below hb56.out)
 have HO6:=Lib.hid (HO4.out.below hb56.out (Nat.le_refl _))
 have HRo6:=Lib.hid (HRo4.out.step (KeptF.of_below (F:=fun _=>False) hb56.out) (fun _ _ h=>h.elim) (fun _ _ h=>h) (fun _ _ h=>h))
 have HRw6:=Lib.hid (HRw4.out.kept hb56.out (Nat.le_refl _))
 have BB:=Lib.hid (B2.out.trans (B6.out.mono B2.out.size))
 have G0:=Lib.hid (show Got w6 w6.heap.size none 0 0 [] b0 rs from⟨OwnE.nil _ _ (Nat.le_refl _),Nat.zero_le _,fun i _ h=>absurd h (Nat.not_lt_zero _)⟩)
 have HP0:=Lib.hid (And.intro (bnd_first os) HCf.out)
 clear HHd hfd HRo4 HRw4 HV HO4 HCf
 go_loopw [9,10] (fun gt kv wr=> ∃(k c cap:Nat) (A:Option Addr) (xs:List Value),gt= .slice A c cap∧kv= .int .u64 (k:Int)∧Hid (bnd os k∧Cut mi c k)∧Hid (Got wr w6.heap.size A c cap xs b0 rs)∧Hid (Below w6.heap.size w6 wr)) (fun _ k _=>E-natOf k)
 case atStart=>exact⟨272,0,0,none,[],rfl,rfl,HP0,G0,S6⟩
 case round=>
  obtain⟨k,c,cap9,A,xs,rfl,rfl,hP,hG,hbr⟩:=hrel
  have HVr:=Lib.hid (HV6.out.below hbr.out)
  have HEn:=Lib.hid (vend_any wr HVr.out)
  by_cases hlt:k<E
  ·have dd1:decide ((k:Int)<(E:Int))=true:=by simp;omega
   obtain⟨o,ho⟩:=bnd_at hP.out.1 (by rw[HEnd.out];exact hlt)
   obtain⟨q1,q2,q3,q4,z,q5,q6,q7,q8,q9⟩:=HRd.out k o ho
   have HRd1:=Lib.hid (by have q:=read_any A3 l E c3 k wr (HO6.out.below hbr.out (Nat.le_refl _)) hlen (by omega) HC3.out.1 HC3.out.2 (by omega);rw[q1,q2,q5]at q;exact q)
   unfold FrTold frV at HRd1
   have dz:decide ((z:Int)<16)=false:=by simp;omega
   have hw1:IntKind.u64.wrap ((z:Int)+7)=((z+7:Nat):Int):=by rw[IntKind.wrap_u64];omega
   have HZ:=Lib.hid q7
   have HO:=Lib.hid ho
   have HQ:=Lib.hid (And.intro q8 q9)
   clear q1 q2 q5 q7 q8 q9 ho
   go_upto_region 17 with(first
    |(go_at_call 18;(refine HEn.out.mono ?_);rintro e w7 ⟨rfl,rfl⟩)
    |(go_at_call 26;(refine HRd1.out.mono ?_);rintro e w8 ⟨rfl,hb8⟩;have B8:=Lib.hid hb8;clear hb8)
    |fail)
   have R9:=Lib.hid (Blk.new w8 [.int .i64 o.k,.int .i64 0,.int .u64 (z:Int)] 62)
   have b9:=Lib.hid (B8.out.alloc B8.out.size (.cells #[.int .i64 o.k,.int .i64 0,.int .u64 (z:Int)] 62))
   have hg8:=Lib.hid (show wr.heap.size≤w8.heap.size from B8.out.size)
   have B9:=Lib.hid (hbr.out.trans (b9.out.mono hbr.out.size))
   have HG9:=Lib.hid (hG.out.below b9.out)
   have HV9:=Lib.hid (HVr.out.below b9.out)
   have HAo:=Lib.hid fun b hb=>(OwnE.ltB hG.out.own b hb).2
   clear HRd1 HEn HVr hbr hG B8 b9
   generalize (w8.alloc (.cells #[.int .i64 o.k,.int .i64 0,.int .u64 (z:Int)] 62))=w9 at*
   generalize w8.heap.size=g8 at*
   have k0:=R9.out.cell (i:=0) rfl
   have k2:=R9.out.cell (i:=2) rfl
   have hq:((z+7:Nat):Int).tdiv 8=(((z+7)/8:Nat):Int):=by rw[Int.tdiv_eq_ediv_of_nonneg (by omega)];omega
   obtain⟨q,hqq⟩: ∃q,(z+7)/8=q:=⟨_,rfl⟩
   obtain⟨on,hon⟩: ∃on,o.n=on:=⟨_,rfl⟩
   have hz8:=HZ.out
   have hQ1:=HQ.out.1
   rw[hqq,hon]at hz8
   rw[hon]at hQ1
   rw[hqq]at hq
   have hwq:IntKind.u64.wrap (q:Int)=(q:Int):=by rw[IntKind.wrap_u64];omega
   have hwq8:IntKind.u64.wrap ((q:Int)*8)=(on:Int):=by rw[IntKind.wrap_u64];omega
   have hwk:IntKind.u64.wrap ((k:Int)+(on:Int))=((k+on:Nat):Int):=by rw[IntKind.wrap_u64];omega
   have h16:=HZ.out
   have hn8:=(Za.O.n8 o).2
   rw[hon]at hn8
   by_cases hk3:o.k=3
   ·have d3:(o.k==3)=true:=by simpa using hk3
    have d3b:decide (o.k=3)=true:=by simpa using hk3
    obtain⟨hc,hmi,hcut⟩:=HCn.out k c o HO.out hk3 hP.out.2
    have hbn:=bnd_next HO.out
    rw[hon]at hcut hbn
    have hcr:c<rs.length:=by have h1:=HRl.out;have h2:=HMl.out;omega
    have HR1:=Lib.hid (HRec.out c hcr w9 gv A9 c9 HV9.out HC9.out)
    rw[show mi.getD c 0=k by rw[List.getD_eq_getElem?_getD,List.getElem?_eq_getElem hc];exact hmi]at HR1
    have HE1:=Lib.hid fun F kk cc=>(rfl:recL (b0+c+1) rs[c].2.1 rs[c].2.2.1 rs[c].2.2.2 (.slice F kk cc)=recL (b0+c+1) rs[c].2.1 rs[c].2.2.1 rs[c].2.2.2 (.slice F kk cc))
    have HMm:=Lib.hid (show ∀pl:List PR,(∀y,y∈pl↔y∈rs[c].1)→(∀y,y∈pl↔y∈rs[c].1)from fun _ h=>h)
    have HP2:=Lib.hid (And.intro hbn hcut)
    generalize hsq:b0+(c:Int)+1=sq at*
    generalize hr1:rs[c].2.1=real at*
    generalize hr2:rs[c].2.2.1=mono at*
    generalize hr3:rs[c].2.2.2=K at*
    clear hc hmi hcut hbn
    have Hhh:=Lib.hid (And.intro hsq (And.intro hr1 (And.intro hr2 hr3)))
    clear hsq hr1 hr2 hr3 hk3
    go_upto_region 21 with(first
     |(go_at_call 27;(refine HR1.out.mono ?_);rintro e w10 ⟨F,cc,kk,pl,rfl,hpl,hkk,hF,hmem,hb10,hnw⟩;have HF10:=Lib.hid hF;have B10:=Lib.hid hb10;have HPl:=Lib.hid (And.intro hpl (And.intro hkk hmem));have HNw:=Lib.hid hnw;clear hF hb10 hpl hkk hmem hnw)
     |((with_reducible apply at_store (.tmp 13) (.tmp 69));refine wpList_store_row rfl 67 (.tmp 13) (.tmp 69) rfl w10.heap.size (recL sq real mono K (.slice F kk cc)).toArray rfl rfl 67 zR (heap_alloc_new w10 _) (recInfo _ _ _ _ _) rfl (by simp[Value.oneCell']) ?_)
     |fail)
    have R11:=Lib.hid (show Blk ((w10.alloc (.cells zR 67)).setRow w10.heap.size (recL sq real mono K (.slice F kk cc)).toArray) w10.heap.size (recL sq real mono K (.slice F kk cc)) 67 from setRow_heap _ _ _ _ _ (0,0) (heap_alloc_new w10 _))
    have B11:=Lib.hid (show Below w10.heap.size w10 ((w10.alloc (.cells zR 67)).setRow w10.heap.size (recL sq real mono K (.slice F kk cc)).toArray)from below_setRow ((Below.refl _ _).alloc (Nat.le_refl _) _) (Nat.le_refl _) _)
    generalize (w10.alloc (.cells zR 67)).setRow w10.heap.size (recL sq real mono K (.slice F kk cc)).toArray=w11 at*
    have HFo:=Lib.hid (show ∀b off,F=some ⟨b,off,none⟩→0<kk→b<w11.heap.size∧ownB A≠some b from fun b off e h0=>by
     have h1:=HNw.out b off e
     obtain⟨b2,off2,e2,h3,_⟩:=HF10.out.2 0 (by rw[HPl.out.1];exact h0)
     rw[e]at e2
     injection e2 with e2
     injection e2 with e2
     subst e2
     refine⟨Nat.lt_of_lt_of_le h3 B11.out.size,fun e3=>?_⟩
     have h4:=HAo.out b e3
     have h5:=R9.out.lt
     have h6:=hg8.out
     omega)
    have B911:=Lib.hid (B10.out.trans (B11.out.mono B10.out.size))
    have o12:=Lib.hid ((Below.refl w11.heap.size w11).alloc (Nat.le_refl _) (.cells (recL sq real mono K (.slice F kk cc)).toArray 67))
    have HG12:=Lib.hid ((HG9.out.below B911.out).below o12.out)
    have HF12:=Lib.hid ((HF10.out.below B11.out).below o12.out)
    have R912:=Lib.hid ((R9.out.below B911.out R9.out.lt).alloc (.cells (recL sq real mono K (.slice F kk cc)).toArray 67))
    have B12:=Lib.hid ((B9.out.trans (B911.out.mono B9.out.size)).trans (o12.out.mono (B9.out.trans (B911.out.mono B9.out.size)).size))
    have HOn:=Lib.hid (Nu.recL_one sq real mono K F kk cc)
    have hs11:w11.heap.size<(w11.alloc (.cells (recL sq real mono K (.slice F kk cc)).toArray 67)).heap.size:=by simp
    have Hs11:=Lib.hid hs11
    have Hg8A:=Lib.hid (show some g8≠ownB A from fun e=>by have h1:=HAo.out g8 e.symm;have h2:=hg8.out;omega)
    have hln:c≤12:=by have h1:=HRl.out;omega
    generalize w10.heap.size=g10 at*
    clear HR1 B10 B11 HF10 k0 k2 o12 hs11 HG9 HV9
    go_upto_region 22 with(first
     |((with_reducible apply at_slot 74);refine wpList_load_row rfl 67 (.tmp 13) rfl g10 rfl 67 (recL sq real mono K (.slice F kk cc)).toArray (0,0) _ R11.out Tryz.underlying67 rfl (recInfo _ _ _ _ _) ?_)
     |(at_builtin;refine wpList_append_new recElt rfl (.tmp 73) (.tmp 75) rfl w6.heap.size A c cap9 xs rfl HG12.out.own ⟨w11.heap.size,0,none⟩ 1 1 (recL sq real mono K (.slice F kk cc)) rfl rfl (Blk.news (Blk.new w11 _ _)) HOn.out (by omega) (by omega) (by unfold maxLen;omega) ?_;intro A5 c5 w13 ho13 hg13 hat13;have HO13:=Lib.hid ho13;have HG13:=Lib.hid hg13;have HT13:=Lib.hid hat13;clear ho13 hg13 hat13)
     |fail)
    obtain⟨e1,e2,e3,e4⟩:=Hhh.out
    have HGn:=Lib.hid (Got.snoc HG12.out hcr (s:=sq) (r:=real) (m:=mono) (K:=K) (F:=F) (k:=kk) (cc:=cc) (pl:=pl) (by rw[e1,e2,e3,e4]) HPl.out.1 HPl.out.2.1 HF12.out HPl.out.2.2 (fun b off e h0=>⟨Nat.lt_trans (HFo.out b off e h0).1 Hs11.out,(HFo.out b off e h0).2⟩) HO13.out HG13.out HT13.out)
    have HB13:=Lib.hid (show Below w6.heap.size w6 w13 from B12.out.trans (below_grown HG13.out B12.out.size (fun k' hk'=>(OwnE.ltB HG12.out.own k' hk').1)))
    have k2:w13.cell? ⟨g8,2,none⟩=some (.int .u64 (z:Int)):=(World.cell?_of_block (a:=⟨g8,2,none⟩) (HG13.out.block g8 R912.out.lt Hg8A.out)).trans (R912.out.cell (i:=2) rfl)
    clear e1 e2 e3 e4
    go_wp2_with fail
    go_roundw
    case rel=>exact⟨k+on,c+1,c5,A5,_,rfl,by congr 1;omega,HP2,HGn,HB13⟩
    case measure=>simp[natOf];omega
   ·have d3:(o.k==3)=false:=by simpa using hk3
    have d3b:decide (o.k=3)=false:=by simpa using hk3
    have hcut:=HCo.out k c o HO.out hk3 hP.out.2
    have hbn:=bnd_next HO.out
    rw[hon]at hcut hbn
    have HP2:=Lib.hid (And.intro hbn hcut)
    clear hcut hbn hk3
    go_wp2_with fail
    go_roundw
    case rel=>exact⟨k+on,c,cap9,A,xs,rfl,by congr 1;omega,HP2,HG9,B9⟩
    case measure=>simp[natOf];omega
  ·have dd1:decide ((k:Int)<(E:Int))=false:=by simp;omega
   have hkE:k=E:=by
    rcases hP.out.1 with h1|⟨o,h1⟩
    ·rw[HEnd.out]at h1;exact h1
    ·have h2:=(HRd.out k o h1).2.2.2.2
     obtain⟨z,_,_,_,h3,_⟩:=h2
     have:=(Za.O.n8 o).2
     omega
   have hcE:=hP.out.2
   rw[hkE]at hcE
   have hcn:c=n:=(HCe.out c hcE).trans HMl.out
   subst hcn
   have HSR:=Lib.hid (samerows_yes A Aw c cap9 cw wr (by omega) fun i hi=>by
    have hir:i<rs.length:=by rw[HRl.out];exact hi
    obtain⟨F,kk,cc,pl,e1,e2,e3,e4,e5,_⟩:=hG.out.at_ i hir hi
    obtain⟨Ar,nr,cr,f1,f2,f3,f4,_⟩:=(HRo6.out.step (KeptF.of_below (F:=fun _=>False) hbr.out) (fun _ _ h=>h.elim) (fun _ _ h=>h) (fun _ _ h=>h):RowsR wr w1.heap.size (p.foot g) Aw xw b0 rs).at_ i hir
    exact⟨_,_,_,_,pl,rs[i].1,(HSc.out (i,0) hir).K,own_rec hG.out.own hi e1 e4 e2 e3,own_rec (HRw6.out.kept hbr.out (Nat.le_refl _)) hi f1 f4 f2 (by omega),e5⟩)
   clear hG hP hcE
   go_wp2_with(first
    |(go_at_call 18;(refine HEn.out.mono ?_);rintro e w7 ⟨rfl,rfl⟩)
    |(go_at_call 28;(refine HSR.out.mono ?_);rintro e w8 ⟨rfl,hb8⟩;have B8:=Lib.hid hb8;clear hb8)
    |fail)
   go_ret
   exact⟨rfl,BB.out.trans ((hbr.out.trans (B8.out.mono hbr.out.size)).mono BB.out.size)⟩
theorem walk (a:Option Addr)(len cap:Nat)(z:List Int)(w:World)(h:IsRow .i64 w a len cap z):
 Calls Tryz.prog 4 #[.slice a len cap] w fun e w'=>e= .returned (.bool true)∧Below w.heap.size w w':=by
 obtain⟨hI,h2,h3⟩:=ints_in h
 by_cases h1:len≤120
 ·exact walk_main a len cap _ w hI h1
 ·have d1:decide ((120:Int)<(len:Int))=true:=by simp;omega
  clear h hI
  go_enter Tryz.func4,Tryz.ntmps4
  go_wp2_with(go_at_call 11;((with_reducible refine(first_arena _).mono ?_);rintro e w1 ⟨rfl,hb1⟩;have B1:=Lib.hid hb1;clear hb1))
  go_ret
  exact⟨rfl,B1.out⟩
end ArenaRecordsW
end Go.Proofs.YtelmgldkgccecaaGreat
