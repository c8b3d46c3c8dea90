/-
  Texts beneath the proof.
-/
import Derived.Test.YtjecmgkmcfkcjaaGreatQhLinkData1
set_option linter.unusedVariables false
set_option linter.unusedSimpArgs false
set_option maxRecDepth 100000
set_option maxHeartbeats 32000000
open Go.ChangeShapes Go.WideShapes Go.ChangeAt Go.RowKit
namespace Go.Proofs.YtjecmgkmcfkcjaaGreat
namespace LinkDataW
open Bytes8 Blk8 Own8 OwnM OwnE Rows2 Od Og Ga Gb Gj Ma Mb Mh Na Np Ns Nt Nu Rc Rp Rr Rk Wa Wc Ls Pr8 Ps8 Pl8 Za Zb Zg Zh Zj Zl Zu Zx Hs Ht Seq8 Kf
open Go1 (hcode HTold)
open Lk (first_link)
open Xl (bytes_back)
open Fa (T pv pay pay_all T_beq)
open Za (obj O)
theorem rows_fields {w4:World}{gq:Nat}{F:Nat→Prop}{B n c:Nat}{A:Option Addr}{xs:List Value}{b0:Int}{rs:List (List PR×Int×Int×(Nat→Int))}(h:RowsR w4 gq F A xs b0 rs)(ho:OwnE 64 20 w4 B A n c xs)(hl:rs.length=n)(k:Nat)(hk:k<n)(W:World)(hW:Below w4.heap.size w4 W):
 ∃(bR:Nat) (Ar:Option Addr) (nr cr:Nat) (L:List PR),A=some ⟨bR,0,none⟩∧W.cell? ⟨bR,k*20+19,none⟩=some (.slice Ar nr cr)∧L.length=nr∧nr≤16∧Prs W Ar L∧L=(rs.getD k ([],0,0,fun _=>0)).1:=by
 subst hl
 obtain⟨Ar,nr,cr,e1,e2,e3,e4,_⟩:=h.at_ k hk
 have hxl:=h.len
 obtain⟨bR,h1,_,h2,h3⟩:=ho.cell (i:=20*k+19) (by omega)
 refine⟨bR,Ar,nr,cr,rs[k].1,h1,?_,e2,e3,e4.below hW,?_⟩
 ·have hv:xs[20*k+19]'(by omega)= .slice Ar nr cr:=by
   have h5:((xs.drop (20*k)).take 20)[19]? =some (.slice Ar nr cr):=by rw[e1];rfl
   rw[List.getElem?_take_of_lt (by decide),List.getElem?_drop,List.getElem?_eq_getElem (by omega)]at h5
   exact Option.some.inj h5
  rw[Nat.mul_comm k 20]
  exact(hW.cell (p:=⟨bR,20*k+19,none⟩) h2).trans (h3.trans (by rw[List.getElem?_eq_getElem (by omega),hv]))
 ·rw[List.getD_eq_getElem?_getD,List.getElem?_eq_getElem hk];rfl
theorem pick_at2 (rs:List RR)(mi:List Nat)(n:Nat)(h1:rs.length=n)(h2:mi.length=n)(pl:List Int)(x:Nat)(hx:x<n):
 (pl∈paysOf (rs.getD x ([],0,0,fun _=>0))→(pick ((rs.zip mi).take x) pl).length<(pick (rs.zip mi) pl).length∧(pick (rs.zip mi) pl).getD (pick ((rs.zip mi).take x) pl).length 0=mi.getD x 0∧(pick ((rs.zip mi).take (x+1)) pl).length=(pick ((rs.zip mi).take x) pl).length+1)∧(pl∉paysOf (rs.getD x ([],0,0,fun _=>0))→(pick ((rs.zip mi).take (x+1)) pl).length=(pick ((rs.zip mi).take x) pl).length):=by
 have q:=pick_at (rs.zip mi) pl x (by rw[List.length_zip];omega)
 rw[List.getElem_zip]at q
 rw[List.getD_eq_getElem?_getD (l:=rs),List.getElem?_eq_getElem (show x<rs.length by omega),List.getD_eq_getElem?_getD (l:=mi),List.getElem?_eq_getElem (show x<mi.length by omega)]
 exact q
theorem toI_get (l:List Nat)(x:Nat):(toI l).getD x 0=((l.getD x 0:Nat):Int):=by
 rw[List.getD_eq_getElem?_getD,List.getD_eq_getElem?_getD,List.getElem?_map]
 cases l[x]? <;>rfl
attribute [local irreducible] HD.cells in
theorem head_size (H:HD)(w:World):(Instr.field 78 (.agg (H.cells 21).toArray) 7).run Tryz.prog w= .ok (.int .u64 (H.N 0)) w:=by
 have hc:(H.cells 21)[67]? =some (.int .u64 (H.N 0)):=H.get_N 21 0 (by decide)
 simp[go_sem,Instr.field,part,isAgg,asAgg,underlying,Tryz.underlying78,Tryz.underlying40,hc]
theorem list_mem {L:List PR}(h:listE L=0)(x:PR):x∈listL L↔x∈L:=by
 unfold listL
 rw[if_pos h,sortP_mem,ded_mem]
theorem pays_mem {r:RR}(h:listE r.1=0)(t:List Int):t∈paysOf r↔t∈r.1.map fun q=>pay q.1 q.2:=by
 constructor
 ·intro h1
  obtain⟨q,hq,rfl⟩:=List.mem_map.1 h1
  exact List.mem_map.2 ⟨q,(list_mem h q).1 hq,rfl⟩
 ·intro h1
  obtain⟨q,hq,rfl⟩:=List.mem_map.1 h1
  exact List.mem_map.2 ⟨q,(list_mem h q).2 hq,rfl⟩
def natOf:Value→Nat
 | .int _ z=>z.toNat
 |_=>0
attribute [local irreducible] HD.cells wpList Code.wp
theorem walk_main (a:Option Addr)(len cap:Nat)(f:Nat→Int)(w:World)(hI:InInts .i64 w a len f)(hl:len≤200):
 Calls Tryz.prog 6 #[.slice a len cap] w fun e w'=>e= .returned (.bool true)∧Below w.heap.size w w':=by
 have d1:decide ((200:Int)<(len:Int))=false:=by simp;omega
 have HI:=Lib.hid hI
 clear hI
 go_enter Tryz.func6,Tryz.ntmps6
 go_upto_region 6 with(go_at_call 34;((with_reducible refine(first_link _).mono ?_);rintro e w1 ⟨rfl,hb1⟩;have B1:=Lib.hid hb1;clear hb1))
 clear d1
 have HI1:=Lib.hid (HI.out.below B1.out)
 have Q1:=Lib.hid (show SeqIn (w1.alloc (.cells #[.slice a len cap,.int .i64 0] 55)) w1.heap.size a len cap f 0 from⟨Blk.new w1 [.slice a len cap,.int .i64 0] _,HI1.out.below ((Below.refl _ _).alloc (Nat.le_refl _) _),fun h0 b off e=>by obtain⟨b',off',e',h1,_⟩:=HI1.out 0 h0;rw[e]at e';injection e' with e';injection e' with e';omega,Nat.zero_le _,by omega⟩)
 have b1:=Lib.hid ((Below.refl w1.heap.size w1).alloc (Nat.le_refl _) (.cells #[.slice a len cap,.int .i64 0] 55))
 have HM:=Lib.hid (makerR_any w1.heap.size a len cap f 0 20 _ Q1.out (by decide))
 unfold MadeR at HM
 go_upto_region 7 with(first
  |(go_at_call 28;(refine HM.out.mono ?_);rintro e w2 ⟨g,A,n,c,B,p,m,rs,xs,b0,rfl,hB,hat,hgd,hk,hrw,hrc,hrl,hn9,hro⟩;have HA:=Lib.hid hat;have HG:=Lib.hid hgd;have HK:=Lib.hid hk;have HRw:=Lib.hid hrw;have HRc:=Lib.hid hrc;have HRl:=Lib.hid hrl;have HN9:=Lib.hid hn9;have HRo:=Lib.hid hro;clear hat hgd hk hrw hrc hrl hn9 hro)
  |fail)
 have hI:=HG.out.img
 obtain⟨l1,l2,l3⟩:=hI.lens
 have hn30:=HG.out.le
 obtain⟨os,hs,mi,es,hkept,hrecs,hpk⟩:=hs_reach HRc.out
 have htx:=(Zy.tx_full HRc.out).1
 have HMl:=Lib.hid (show mi.length=n by rw[hkept.len,HRl.out])
 have ht:(0:Int)≤1∧(1:Int)≤2:=by decide
 have HIm:=Lib.hid (image_any B g p.bb p.cb p.S m 1 w2 HA.out.st (by omega) (st_head hI ht) (by have:=hI.inv.dep;omega))
 unfold Owned at HIm
 obtain⟨E,hE⟩: ∃E,m.b.length=E:=⟨_,rfl⟩
 have hlen:=st_len hI 1
 have hz:=st_hcode hI ht
 obtain⟨he1,he2⟩:=st_end hI ht
 obtain⟨hch,hh8⟩:=st_chase hkept ht
 have hsl:(HD.plus (Mk.head m 1) (m.depth:Int)).bytes 21++m.b.drop 272=stL m 1:=rfl
 rw[hsl]at HIm
 have hN0:(hdOf (stL m 1)).N 0=272:=(st_N hI ht 0 (by decide) (by decide)).trans hI.hg.n0
 have hrd:=fun(a:Nat) (o:O) (ho:obj 272 os a=some o)=>st_read (st:=1) hkept ho
 have hend:=kept_end hkept
 have hE0:E≤300000:=by omega
 have hda:=fun(a:Nat) (o:O) (ho:obj 272 os a=some o) (h1:o.k=1)=>show ∃p:List Int,p≠ []∧hcode9 (hdOf (stL m 1)) (stL m 1) m.b.length a=0∧payT (hdOf (stL m 1)) (stL m 1) m.b.length a=p∧ofR (hdOf (stL m 1)) (stL m 1) m.b.length a=(toI (pick (rs.zip mi) p),0)from by
  obtain⟨i,hi,rfl⟩:=data_obj hkept ho h1
  obtain⟨q1,q2⟩:=st_pay hkept hrecs htx ht i hi
  exact⟨m.datas[i].text,htx _ (List.getElem_mem hi),q1,q2,st_of hkept htx hpk ht i hi⟩
 have hE0:E≤300000:=by omega
 have hmU:=Lib.hid (show ∀y∈mi,y≤1000000 from fun y hy=>by
  have:=hkept.bd y hy
  omega)
 have hok:=Lib.hid fun(j:Nat) (hj:j<rs.length)=>(hrecs.ok _ (List.getElem_mem hj)).list
 rw[hE]at hlen hz he1 hch HIm hend hrd hda
 generalize stL m 1=l at*
 have HOp:=Lib.hid fun(A:Option Addr) (c:Nat) (W:World) (hb:Bytes W A l) (hc:E≤c)=>by
  have k:=open_fine l A E c W hb hlen (by omega) hc hz E he1 he2 (Nat.le_refl _) (hdOf_ok hb.1 21)
  unfold Opened at k
  rw[List.take_of_length_le (by omega)]at k
  exact k
 have HEn:=Lib.hid fun(W:World) (gv:Nat) (A:Option Addr) (c:Nat) (v:ViewAt W gv (hdOf l) A E c l) (hc:c≤maxLen) (hA:AllB l)=>by
  have k:=Wl.entries_any W v hc (by omega) (by omega) hA (hdOf_ok hA 21)
  rw[hch]at k
  exact k
 unfold TellL at HEn
 have HPl:=Lib.hid fun(k:Nat) (W:World) (gv:Nat) (A:Option Addr) (c:Nat) (v:ViewAt W gv (hdOf l) A E c l) (hc:c≤maxLen)=>payTell k W v hc (by omega)
 have HOf:=Lib.hid fun(k:Nat) (W:World) (gv:Nat) (A:Option Addr) (c:Nat) (v:ViewAt W gv (hdOf l) A E c l) (hc:c≤maxLen) (hA:AllB l)=>Wm.of_any k W v hc (by omega) (by omega) hA
 unfold TellP at HPl
 unfold TellL at HOf
 have HRd:=Lib.hid hrd
 have HEnd:=Lib.hid hend
 have HDa:=Lib.hid hda
 have HLn:=Lib.hid fun(j:Nat) (hj:j<rs.length) (q:PR) (hq:q∈rs[j].1)=>show q.1.length≤64∧q.2.length≤256 from by
  have h1:=hok.out j hj
  have h2:=(list_ok h1).2 q ((list_mem h1 q).2 hq)
  exact Fc.flaw_len h2.2
 have B2:=Lib.hid (B1.out.trans ((b1.out.trans (KeptB.below (HK.out.mono b1.out.size) (Nat.le_refl _))).mono B1.out.size))
 clear Q1 HM b1 HI HI1 hsl hz he1 he2 hch hh8 hI hkept hrecs HRc HN9 HG HK l1 l2 l3 ht HA hrd hend hpk htx hda
 go_upto_region 11 with(first
  |(go_at_call 29;(refine HIm.out.mono ?_);rintro e w3 ⟨A3,c3,rfl,ho3,hb3⟩;have HO3:=Lib.hid ho3.bytes;have HC3:=Lib.hid (own_cap ho3);have B3:=Lib.hid hb3;clear ho3 hb3)
  |(go_at_call 15;(refine(HOp.out _ _ _ HO3.out HC3.out.1).mono ?_);rintro e w4 ⟨gv,A9,c9,rfl,_,hv,hc9,hb4⟩;have HV:=Lib.hid hv;have HC9:=Lib.hid hc9;have B4:=Lib.hid (B3.out.trans (hb4.mono B3.out.size));have HO4:=Lib.hid (HO3.out.below hb4 (Nat.le_refl _));clear hv hb4 hc9)
  |fail)
 have HAB:=Lib.hid HV.out.by_.1
 have HE9:=Lib.hid (HEn.out w4 gv A9 c9 HV.out HC9.out HAB.out)
 have HRo4:=Lib.hid (HRo.out.step (KeptF.of_below (F:=fun _=>False) B4.out) (fun _ _ h=>h.elim) (fun _ _ h=>h) (fun _ _ h=>h))
 have HRw4:=Lib.hid (HRw.out.own.kept B4.out (Nat.le_refl _))
 clear HIm HOp HEn HRo HRw HO3
 go_upto_region 12 with(first
  |(go_at_call 35;(refine HE9.out.mono ?_);rintro e w5 ⟨hb5,A5,m5,c5,rfl,ho5,hl5⟩;have B5:=Lib.hid hb5;have O5:=Lib.hid ho5;have L5:=Lib.hid hl5;clear hb5 ho5 hl5)
  |fail)
 have hm5:m5=n:=by have h1:=L5.out;have h2:=HMl.out;rw[List.length_map]at h1;omega
 subst hm5
 have hne5:((m5:Int)!=(m5:Int))=false:=by simp
 have HHd:=Lib.hid (vhead_any w5 ((HV.out.below B5.out).blk))
 have hfd:=fun W=>head_size (hdOf l) W
 rw[hN0]at hfd
 have HV5:=Lib.hid (HV.out.below B5.out)
 have HO5:=Lib.hid (HO4.out.below B5.out (Nat.le_refl _))
 clear HE9 hN0 HV HO4
 generalize hdOf l=H at*
 go_upto_region 15 with fail
 go_upto_region 16 with(first
  |(go_at_call 36;(refine HHd.out.mono ?_);rintro e w6 ⟨rfl,hb6⟩;have B6:=Lib.hid hb6;clear hb6)
  |fail)
 have S6:=Lib.hid (Below.refl w6.heap.size w6)
 have HV6:=Lib.hid (HV5.out.below B6.out)
 have HO6:=Lib.hid (HO5.out.below B6.out (Nat.le_refl _))
 have HRo6:=Lib.hid ((HRo4.out.step (KeptF.of_below (F:=fun _=>False) B5.out) (fun _ _ h=>h.elim) (fun _ _ h=>h) (fun _ _ h=>h)).step (KeptF.of_below (F:=fun _=>False) B6.out) (fun _ _ h=>h.elim) (fun _ _ h=>h) (fun _ _ h=>h))
 have HRw6:=Lib.hid ((HRw4.out.kept B5.out (Nat.le_refl _)).kept B6.out (Nat.le_refl _))
 have O6:=Lib.hid (O5.out.kept B6.out (Nat.le_refl _))
 have BB:=Lib.hid (B2.out.trans ((B4.out.trans ((B5.out.trans (B6.out.mono B5.out.size)).mono B4.out.size)).mono B2.out.size))
 have HP0:=Lib.hid (bnd_first os)
 clear HHd hfd HRo4 HRw4 HV5 HO5 B4 B5 B6 B2 O5 hne5
 have HPk:=Lib.hid fun(pl:List Int) (x:Nat) (hx:x<m5)=>pick_at2 rs mi m5 HRl.out HMl.out pl x hx
 have HZl:=Lib.hid (show(rs.zip mi).take m5=rs.zip mi from List.take_of_length_le (by rw[List.length_zip,HRl.out,HMl.out];omega))
 go_wp2_with fail
 go_loopw [11,12] (fun sv kv wr=> ∃(k:Nat) (sz:Int),sv= .int .u64 sz∧kv= .int .u64 (k:Int)∧Hid (bnd os k)∧Hid (Below w6.heap.size w6 wr)) (fun _ k _=>E-natOf k)
 case atStart=>exact⟨272,0,rfl,rfl,HP0,S6⟩
 case round=>
  clear HP0 S6
  obtain⟨k,sz,rfl,rfl,hP,hbr⟩:=hrel
  have HVr:=Lib.hid (HV6.out.below hbr.out)
  have HEn:=Lib.hid (vend_any wr HVr.out)
  by_cases hlt:k<E
  ·have dd1:decide ((k:Int)<(E:Int))=true:=by simp;omega
   obtain⟨o,ho⟩:=bnd_at hP.out (by rw[HEnd.out];exact hlt)
   obtain⟨q1,q2,q3,q4,z,q5,q6,q7,q8,q9⟩:=HRd.out k o ho
   have HRd1:=Lib.hid (by have q:=read_any A3 l E c3 k wr (HO6.out.below hbr.out (Nat.le_refl _)) hlen (by omega) HC3.out.1 HC3.out.2 (by omega);rw[q1,q2,q5]at q;exact q)
   unfold FrTold frV at HRd1
   have dz:decide ((z:Int)<16)=false:=by simp;omega
   have hw1:IntKind.u64.wrap ((z:Int)+7)=((z+7:Nat):Int):=by rw[IntKind.wrap_u64];omega
   have HZ:=Lib.hid q7
   have HO:=Lib.hid ho
   have HQ:=Lib.hid (And.intro q8 q9)
   clear q1 q2 q5 q7 q8 q9 ho
   go_upto_region 19 with(first
    |(go_at_call 37;(refine HEn.out.mono ?_);rintro e w7 ⟨rfl,rfl⟩)
    |(go_at_call 38;(refine HRd1.out.mono ?_);rintro e w8 ⟨rfl,hb8⟩;have B8:=Lib.hid hb8;clear hb8)
    |fail)
   have R9:=Lib.hid (Blk.new w8 [.int .i64 o.k,.int .i64 0,.int .u64 (z:Int)] 82)
   have b9:=Lib.hid (B8.out.alloc B8.out.size (.cells #[.int .i64 o.k,.int .i64 0,.int .u64 (z:Int)] 82))
   have B9:=Lib.hid (hbr.out.trans (b9.out.mono hbr.out.size))
   clear HRd1 HEn HVr hbr B8 b9
   generalize (w8.alloc (.cells #[.int .i64 o.k,.int .i64 0,.int .u64 (z:Int)] 82))=w9 at*
   generalize w8.heap.size=g8 at*
   have k0:=R9.out.cell (i:=0) rfl
   have k2:=R9.out.cell (i:=2) rfl
   have hq:((z+7:Nat):Int).tdiv 8=(((z+7)/8:Nat):Int):=by rw[Int.tdiv_eq_ediv_of_nonneg (by omega)];omega
   obtain⟨q,hqq⟩: ∃q,(z+7)/8=q:=⟨_,rfl⟩
   obtain⟨on,hon⟩: ∃on,o.n=on:=⟨_,rfl⟩
   have hz8:=HZ.out
   have hQ1:=HQ.out.1
   rw[hqq,hon]at hz8
   rw[hon]at hQ1
   rw[hqq]at hq
   have hq2:((z:Int)+7).tdiv 8=(q:Int):=hq
   have hwq:IntKind.u64.wrap (q:Int)=(q:Int):=by rw[IntKind.wrap_u64];omega
   have hwq8:IntKind.u64.wrap ((q:Int)*8)=(on:Int):=by rw[IntKind.wrap_u64];omega
   have hwk:IntKind.u64.wrap ((k:Int)+(on:Int))=((k+on:Nat):Int):=by rw[IntKind.wrap_u64];omega
   have hn8:=(Za.O.n8 o).2
   rw[hon]at hn8
   have HBn:=Lib.hid (bnd_next HO.out)
   rw[hon]at HBn
   clear hon hqq hz8
   by_cases hk1:o.k=1
   ·have HDk:=HDa.out k o HO.out hk1
    have d3:(o.k !=1)=false:=by simpa using hk1
    have d3b:decide (o.k=1)=true:=by simpa using hk1
    obtain⟨pl,hp0,hd1,hd2,hd3⟩:=HDk
    have hpne:=Lib.hid hp0
    have HPq:=Lib.hid (HPl.out k w9 gv A9 c9 (HV6.out.below B9.out) HC9.out)
    rw[hd1,hd2]at HPq
    have HOq:=Lib.hid fun(W:World) (hW:Below w6.heap.size w6 W)=>HOf.out k W gv A9 c9 (HV6.out.below hW) HC9.out HAB.out
    simp only[hd3]at HOq
    clear hd1 hd2 hd3 hp0 HDa HPl HOf HRd
    go_upto_region 29 with(first
     |(go_at_call 39;(refine HPq.out.mono ?_);rintro e w10 ⟨Ap,mp,cp9,rfl,hyp,hlp,hb10⟩;have B10:=Lib.hid (B9.out.trans (hb10.mono B9.out.size));have HPy0:=Lib.hid hyp;clear hyp hb10)
     |(go_at_call 40;(refine(HOq.out _ B10.out).mono ?_);rintro e w11 ⟨hb11,A8,m8,c8,rfl,ho8,hl8⟩;have B11:=Lib.hid (B10.out.trans (hb11.mono B10.out.size));have HPy1:=Lib.hid (HPy0.out.below hb11 (Nat.le_refl _));have O8:=Lib.hid ho8;clear hb11 ho8)
     |fail)
    subst hlp
    have hF8:(pick (rs.zip mi) pl).length=m8:=by rw[←hl8,List.length_map]
    have hbF: ∀y∈toI (pick (rs.zip mi) pl),0≤y∧y≤18446744073709551615:=fun y hy=>by
     obtain⟨v,hv,rfl⟩:=List.mem_map.1 hy
     have:=hmU.out v ((pick_sub rs mi pl).subset hv)
     omega
    have H8:=Lib.hid (tell_ints O8.out hl8 hbF)
    have hbM: ∀y∈toI mi,0≤y∧y≤18446744073709551615:=fun y hy=>by
     obtain⟨v,hv,rfl⟩:=List.mem_map.1 hy
     have:=hmU.out v hv
     omega
    have H5:=Lib.hid (tell_ints O6.out L5.out hbM)
    obtain⟨cnt,hcnt⟩: ∃cnt:Nat→Nat,∀x,cnt x=(pick ((rs.zip mi).take x) pl).length:=⟨_,fun _=>rfl⟩
    have hc0:cnt 0=0:=by rw[hcnt];simp[pick]
    have hcm:cnt m5=m8:=by rw[hcnt,HZl.out,hF8]
    have hpx:=fun x hx=>HPk.out pl x hx
    simp only[←hcnt]at hpx
    rw[hF8]at hpx
    have HPx:=Lib.hid hpx
    have HC0:=Lib.hid hc0
    have HCm:=Lib.hid hcm
    have hpA:=HPy1.out.1
    have hm8:m8≤m5:=by
     have:=(pick_sub rs mi pl).length_le
     have:=HMl.out
     omega
    clear hbF hbM hcnt hc0 hcm hpx hF8 hl8 O8 HPk HZl
    generalize pick (rs.zip mi) pl=F at*
    have S11:=Lib.hid (Below.refl w11.heap.size w11)
    clear HPq HOq k0 k2 R9 HPy0
    go_wp2_with fail
    go_loopw [19,20] (fun nv iv wr=> ∃x:Nat,x≤m5∧iv= .int .i64 (x:Int)∧nv= .int .i64 ((cnt x:Nat):Int)∧Hid (Below w11.heap.size w11 wr)) (fun _ i _=>m5-natOf i)
    case atStart=>exact⟨0,Nat.zero_le _,rfl,by rw[HC0.out];rfl,S11⟩
    case round=>
     clear S11 HC0
     obtain⟨x,hx,rfl,rfl,hbx⟩:=hrel
     by_cases hxl:x<m5
     ·have dd2:decide ((x:Int)<(m5:Int))=true:=by simp;omega
      have hxi:(x:Int)<(m5:Int):=by omega
      have hwx:IntKind.i64.wrap ((x:Int)+1)=((x+1:Nat):Int):=by rw[IntKind.wrap_i64];omega
      have Bx:=Lib.hid (B11.out.trans (hbx.out.mono B11.out.size))
      obtain⟨bR,Ar,nr,cr,L,hAe,hcR,hLl,hnr,hPL,hLe⟩:=rows_fields HRo6.out HRw6.out HRl.out x hxl _ Bx.out
      have hbR:=bounds_of_cell hcR
      dsimp only at hbR
      have HPL:=Lib.hid hPL
      have hLen:=HLn.out x (by rw[HRl.out];exact hxl)
      have hLok:=hok.out x (by rw[HRl.out];exact hxl)
      have hrx:rs.getD x ([],0,0,fun _=>0)=rs[x]'(by rw[HRl.out];exact hxl):=by rw[List.getD_eq_getElem?_getD,List.getElem?_eq_getElem (by rw[HRl.out];exact hxl)];rfl
      have hpm:=pays_mem hLok pl
      rw[←hrx]at hpm hLen
      rw[←hLe]at hpm hLen
      have HPm:=Lib.hid hpm
      have HLen:=Lib.hid hLen
      have HPy2:=Lib.hid (HPy1.out.below hbx.out (Nat.le_refl _))
      have H8x:=Lib.hid (H8.out.below hbx.out)
      have H5x:=Lib.hid (H5.out.below Bx.out)
      have HPx1:=Lib.hid (HPx.out x hxl)
      have hAe2:=hAe
      clear hpm hLen hLok hrx hLe hPL
      subst hAe
      rename World=>wx
      have Sx:=Lib.hid (Below.refl wx.heap.size wx)
      go_wp2_with fail
      go_loopw [21,22] (fun iv jv wr=> ∃y:Nat,y≤nr∧jv= .int .i64 (y:Int)∧iv= .bool (decide (pl∈(L.take y).map fun q=>pay q.1 q.2))∧Hid (Below wx.heap.size wx wr)) (fun _ j _=>nr-natOf j)
      case atStart=>exact⟨0,Nat.zero_le _,rfl,by simp,Sx⟩
      case round=>
       clear Sx
       obtain⟨y,hy,rfl,rfl,hby⟩:=hrel
       rename World=>wy
       have hcRy:=(hby.out.cell (p:=⟨bR,x*20+19,none⟩) hbR).trans hcR
       by_cases hyl:y<nr
       ·have dd3:decide ((y:Int)<(nr:Int))=true:=by simp;omega
        have hyi:(y:Int)<(nr:Int):=by omega
        have hwy:IntKind.i64.wrap ((y:Int)+1)=((y+1:Nat):Int):=by rw[IntKind.wrap_i64];omega
        have hst:decide (pl∈(L.take (y+1)).map fun q=>pay q.1 q.2)=(decide (pl∈(L.take y).map fun q=>pay q.1 q.2)||decide (pay (L[y]'(by omega)).1 (L[y]'(by omega)).2=pl)):=by
         rw[List.take_succ_eq_append_getElem (by omega),List.map_append,List.map_singleton,←Bool.decide_or]
         refine decide_eq_decide.2 ?_
         rw[List.mem_append,List.mem_singleton,eq_comm (a:=pl)]
        go_upto_region 37 with fail
        cases hb:decide (pl∈(L.take y).map fun q=>pay q.1 q.2)with
        |true=>
         rw[hb]at hst
         have HSt:=Lib.hid hst
         clear hst hb
         go_quiet (fail)
         have SK:=Lib.hid (show Below wx.heap.size wx (wy.drewN nq)from hby.out.trans ⟨rfl,rfl,rfl,Nat.le_refl _,fun _ _=>rfl⟩)
         go_wp2_with fail
         go_roundw
         case rel=>exact⟨y+1,hyl,by first|rfl|(congr 1<;>omega),by rw[HSt.out];simp,SK⟩
         case measure=>simp[natOf];omega
        |false=>
         rw[hb]at hst
         have HSt:=Lib.hid hst
         clear hst hb
         have hyL:y<L.length:=by omega
         obtain⟨bN,oN,hAr,hbN,hcN,hcV⟩:=HPL.out.2 y hyL
         have hgd:L.getD y nil2=L[y]:=by rw[List.getD_eq_getElem?_getD,List.getElem?_eq_getElem hyL];rfl
         rw[hgd]at hcN hcV
         have hAp:=HPL.out.1 _ (List.getElem_mem hyL)
         have hln:=HLen.out _ (List.getElem_mem hyL)
         subst hAr
         generalize L[y]=pr at*
         obtain⟨nm,vl⟩:=pr
         dsimp only at hcN hcV hAp hln HSt
         have hbq:=T_beq (pay_all hAp.1 hAp.2.1) hpA
         have HRp:=Lib.hid fun(W:World)=>show Calls Tryz.prog 31 #[.agg #[.string (T nm),.string (T vl)]] W fun e w'=>e= .returned (.string (T (pay nm vl)))∧Below W.heap.size W w' from(Fc.rpayload_any nm vl (by omega) W).mono fun e w' h=>⟨h.1,h.2▸(Below.refl W.heap.size W).alloc (Nat.le_refl _) _⟩
         have hxR:bR<wy.heap.size:=Nat.lt_of_lt_of_le hbR hby.out.size
         have hxN:bN<wy.heap.size:=Nat.lt_of_lt_of_le hbN hby.out.size
         have hcN2:=(hby.out.cell (p:=⟨bN,oN+y*2,none⟩) hbN).trans hcN
         have hcV2:=(hby.out.cell (p:=⟨bN,oN+y*2+1,none⟩) hbN).trans hcV
         have HcR:=Lib.hid fun(W:World) (hW:Below wy.heap.size wy W)=>(hW.cell (p:=⟨bR,x*20+19,none⟩) hxR).trans hcRy
         have HcN:=Lib.hid fun(W:World) (hW:Below wy.heap.size wy W)=>(hW.cell (p:=⟨bN,oN+y*2,none⟩) hxN).trans hcN2
         have HcV:=Lib.hid fun(W:World) (hW:Below wy.heap.size wy W)=>(hW.cell (p:=⟨bN,oN+y*2+1,none⟩) hxN).trans hcV2
         have HPy:=Lib.hid (HPy2.out.below hby.out (Nat.le_refl _))
         have D0:=Lib.hid (show Below wy.heap.size wy wy.drew from(Below.refl wy.heap.size wy).drew)
         clear hcN hcV hcN2 hcV2 hgd hAp hln
         generalize hdq:decide (pay nm vl=pl)=bq at*
         refine wp_region_noPanic ?_
         refine wp_region_held_drew (S:=fun W:World=>Below wy.heap.size wy W) (by kernel_rfl) (by exact D0.out) (fun hHeld=>?_)
         refine tk (i:=0) (oi:=⟨some 127,_,_,_,_,_⟩) (v:=?_) rfl (Or.inl ⟨by rfl,?_⟩) ?_
         rotate_left
         ·intro W hSw;have q0:=HcR.out W hSw;have q1:=HcN.out W hSw;have q2:=HcV.out W hSw;have q3:=bytes_back cp9 (HPy.out.below hSw (Nat.le_refl _)) rfl hpne.out;go_simp;try (with_reducible rfl)
         try simp only[Act.put,sA,sZ,sS]
         refine tk (i:=1) (oi:=⟨some 128,_,_,_,_,_⟩) (v:=?_) rfl (Or.inl ⟨by rfl,?_⟩) ?_
         rotate_left
         ·intro W hSw;have q0:=HcR.out W hSw;have q1:=HcN.out W hSw;have q2:=HcV.out W hSw;have q3:=bytes_back cp9 (HPy.out.below hSw (Nat.le_refl _)) rfl hpne.out;go_simp;try (with_reducible rfl)
         try simp only[Act.put,sA,sZ,sS]
         refine tk (i:=2) (oi:=⟨some 129,_,_,_,_,_⟩) (v:=?_) rfl (Or.inl ⟨by rfl,?_⟩) ?_
         rotate_left
         ·intro W hSw;have q0:=HcR.out W hSw;have q1:=HcN.out W hSw;have q2:=HcV.out W hSw;have q3:=bytes_back cp9 (HPy.out.below hSw (Nat.le_refl _)) rfl hpne.out;go_simp;try (with_reducible rfl)
         try simp only[Act.put,sA,sZ,sS]
         refine tk (i:=3) (oi:=⟨some 130,_,_,_,_,_⟩) (v:=?_) rfl (Or.inl ⟨by rfl,?_⟩) ?_
         rotate_left
         ·intro W hSw;have q0:=HcR.out W hSw;have q1:=HcN.out W hSw;have q2:=HcV.out W hSw;have q3:=bytes_back cp9 (HPy.out.below hSw (Nat.le_refl _)) rfl hpne.out;go_simp;try (with_reducible rfl)
         try simp only[Act.put,sA,sZ,sS]
         refine tk (i:=4) (oi:=⟨some 131,_,_,_,_,_⟩) (v:=?_) rfl (Or.inl ⟨by rfl,?_⟩) ?_
         rotate_left
         ·intro W hSw;have q0:=HcR.out W hSw;have q1:=HcN.out W hSw;have q2:=HcV.out W hSw;have q3:=bytes_back cp9 (HPy.out.below hSw (Nat.le_refl _)) rfl hpne.out;go_simp;try (with_reducible rfl)
         try simp only[Act.put,sA,sZ,sS]
         refine tk (i:=5) (oi:=⟨some 132,_,_,_,_,_⟩) (v:=?_) rfl (Or.inl ⟨by rfl,?_⟩) ?_
         rotate_left
         ·intro W hSw;have q0:=HcR.out W hSw;have q1:=HcN.out W hSw;have q2:=HcV.out W hSw;have q3:=bytes_back cp9 (HPy.out.below hSw (Nat.le_refl _)) rfl hpne.out;go_simp;try (with_reducible rfl)
         try simp only[Act.put,sA,sZ,sS]
         refine tk (i:=6) (oi:=⟨some 133,_,_,_,_,_⟩) (v:=?_) rfl (Or.inl ⟨by rfl,?_⟩) ?_
         rotate_left
         ·intro W hSw;have q0:=HcR.out W hSw;have q1:=HcN.out W hSw;have q2:=HcV.out W hSw;have q3:=bytes_back cp9 (HPy.out.below hSw (Nat.le_refl _)) rfl hpne.out;go_simp;try (with_reducible rfl)
         try simp only[Act.put,sA,sZ,sS]
         refine tk (i:=7) (oi:=⟨some 134,_,_,_,_,_⟩) (v:=?_) rfl (Or.inl ⟨by rfl,?_⟩) ?_
         rotate_left
         ·intro W hSw;have q0:=HcR.out W hSw;have q1:=HcN.out W hSw;have q2:=HcV.out W hSw;have q3:=bytes_back cp9 (HPy.out.below hSw (Nat.le_refl _)) rfl hpne.out;go_simp;try (with_reducible rfl)
         try simp only[Act.put,sA,sZ,sS]
         refine tk (i:=8) (oi:=⟨some 135,_,_,_,_,_⟩) (v:=?_) rfl (Or.inl ⟨by rfl,?_⟩) ?_
         rotate_left
         ·intro W hSw;have q0:=HcR.out W hSw;have q1:=HcN.out W hSw;have q2:=HcV.out W hSw;have q3:=bytes_back cp9 (HPy.out.below hSw (Nat.le_refl _)) rfl hpne.out;go_simp;try (with_reducible rfl)
         try simp only[Act.put,sA,sZ,sS]
         refine tk (i:=9) (oi:=⟨some 136,_,_,_,_,_⟩) (v:=?_) rfl (Or.inl ⟨by rfl,?_⟩) ?_
         rotate_left
         ·intro W hSw;have q0:=HcR.out W hSw;have q1:=HcN.out W hSw;have q2:=HcV.out W hSw;have q3:=bytes_back cp9 (HPy.out.below hSw (Nat.le_refl _)) rfl hpne.out;go_simp;try (with_reducible rfl)
         try simp only[Act.put,sA,sZ,sS]
         refine tk (i:=11) (oi:=⟨some 138,_,_,_,_,_⟩) (v:=?_) rfl (Or.inl ⟨by rfl,?_⟩) ?_
         rotate_left
         ·intro W hSw;have q0:=HcR.out W hSw;have q1:=HcN.out W hSw;have q2:=HcV.out W hSw;have q3:=bytes_back cp9 (HPy.out.below hSw (Nat.le_refl _)) rfl hpne.out;go_simp;try (with_reducible rfl)
         try simp only[Act.put,sA,sZ,sS]
         refine tk (i:=12) (oi:=⟨some 139,_,_,_,_,_⟩) (v:=?_) rfl (Or.inl ⟨by rfl,?_⟩) ?_
         rotate_left
         ·intro W hSw;have q0:=HcR.out W hSw;have q1:=HcN.out W hSw;have q2:=HcV.out W hSw;have q3:=bytes_back cp9 (HPy.out.below hSw (Nat.le_refl _)) rfl hpne.out;go_simp;try (with_reducible rfl)
         try simp only[Act.put,sA,sZ,sS]
         refine wpAnyH_ready (rs:=[10]) (by kernel_rfl) (by simp) ?_
         refine AllReadyH.cons (o:=⟨some 137,_,_,_,_,_⟩) rfl (fun K hK=>?_) AllReadyH.nil
         go_simp
         ((with_reducible refine(HRp.out _).mono ?_);rintro e w9 ⟨rfl,hb9⟩;have D7:=Lib.hid (D0.out.trans (hb9.mono D0.out.size));clear hb9)
         try go_wp2_with fail
         refine hK.out _ _ (by exact D7.out) (fun hHeld=>?_)
         clear hK K
         try simp only[Act.put,sA,sZ,sS]
         refine tk (i:=13) (oi:=⟨some 140,_,_,_,_,_⟩) (v:=?_) rfl (Or.inl ⟨by rfl,?_⟩) ?_
         rotate_left
         ·intro W hSw;have q0:=HcR.out W hSw;have q1:=HcN.out W hSw;have q2:=HcV.out W hSw;have q3:=bytes_back cp9 (HPy.out.below hSw (Nat.le_refl _)) rfl hpne.out;go_simp;try (with_reducible rfl)
         try simp only[Act.put,sA,sZ,sS]
         refine tk (i:=14) (oi:=⟨some 141,_,_,_,_,_⟩) (v:=?_) rfl (Or.inl ⟨by rfl,?_⟩) ?_
         rotate_left
         ·intro W hSw;have q0:=HcR.out W hSw;have q1:=HcN.out W hSw;have q2:=HcV.out W hSw;have q3:=bytes_back cp9 (HPy.out.below hSw (Nat.le_refl _)) rfl hpne.out;go_simp;try (with_reducible rfl)
         try simp only[Act.put,sA,sZ,sS]
         refine tk (i:=15) (oi:=⟨some 21,_,_,_,_,_⟩) (v:=?_) rfl (Or.inl ⟨by rfl,?_⟩) ?_
         rotate_left
         ·intro W hSw;have q0:=HcR.out W hSw;have q1:=HcN.out W hSw;have q2:=HcV.out W hSw;have q3:=bytes_back cp9 (HPy.out.below hSw (Nat.le_refl _)) rfl hpne.out;go_simp;try (with_reducible rfl)
         try simp only[Act.put,sA,sZ,sS]
         refine wpAnyH_done (by kernel_rfl) ?_ _
         refine NoPanic.normal ?_
         have SK:=Lib.hid (hby.out.trans (D7.out.mono hby.out.size))
         go_wp2_with fail
         go_roundw
         case rel=>exact⟨y+1,hyl,by first|rfl|(congr 1<;>omega),by rw[HSt.out];simp,SK⟩
         case measure=>simp[natOf];omega
       ·have dd3:decide ((y:Int)<(nr:Int))=false:=by simp;omega
        have hyn:y=nr:=by omega
        subst hyn
        have hfull:L.take y=L:=List.take_of_length_le (by omega)
        rw[hfull]
        cases hb:decide (pl∈L.map fun q=>pay q.1 q.2)with
        |true=>
         obtain⟨n1,n2,n3⟩:=HPx1.out.1 (HPm.out.2 (by simpa using hb))
         obtain⟨bA,oA,hA8,_,hc8,_⟩:=(H8x.out.below hby.out) (cnt x) n1
         obtain⟨bM,oM,hA5,_,hc5,_⟩:=(H5x.out.below hby.out) x hxl
         dsimp only at hc8 hc5
         rw[toI_get]at hc8 hc5
         rw[n2]at hc8
         subst hA8 hA5
         generalize mi.getD x 0=v at*
         have e1:decide ((m8:Int)≤(cnt x:Int))=false:=by simp;omega
         have e2:(cnt x:Int)<(m8:Int):=by omega
         have e3:((v:Int)!=(v:Int))=false:=by simp
         have hwc:IntKind.i64.wrap ((cnt x:Int)+1)=((cnt x+1:Nat):Int):=by rw[IntKind.wrap_i64];omega
         have HN3:=Lib.hid n3
         clear hb n2 n3
         go_upto_region 39 with fail
         go_quiet (fail)
         have SK:=Lib.hid (show Below w11.heap.size w11 (wy.drewN nq)from(hbx.out.trans (hby.out.mono hbx.out.size)).trans ⟨rfl,rfl,rfl,Nat.le_refl _,fun _ _=>rfl⟩)
         go_wp2_with fail
         go_roundw
         case rel=>exact⟨x+1,hxl,by first|rfl|(congr 1<;>omega),by rw[HN3.out];first|rfl|(congr 1<;>omega),SK⟩
         case measure=>simp[natOf];omega
        |false=>
         have hnm:=HPx1.out.2 (fun h=>by have:=HPm.out.1 h;simp[this]at hb)
         have HN3:=Lib.hid hnm
         have SK:=Lib.hid (hbx.out.trans (hby.out.mono hbx.out.size))
         clear hb hnm
         go_wp2_with fail
         go_roundw
         case rel=>exact⟨x+1,hxl,by first|rfl|(congr 1<;>omega),by rw[HN3.out],SK⟩
         case measure=>simp[natOf];omega
     ·have dd2:decide ((x:Int)<(m5:Int))=false:=by simp;omega
      have hxn:x=m5:=by omega
      subst hxn
      have dcm:((cnt x:Int)!=(m8:Int))=false:=by rw[HCm.out];simp
      have SK:=Lib.hid (B11.out.trans (hbx.out.mono B11.out.size))
      go_wp2_with fail
      go_roundw
      case rel=>exact⟨k+on,z,rfl,rfl,HBn,SK⟩
      case measure=>simp[natOf];omega
   ·have d3:(o.k !=1)=true:=by simpa using hk1
    have d3b:decide (o.k=1)=false:=by simpa using hk1
    go_wp2_with fail
    go_roundw
    case rel=>exact⟨k+on,z,rfl,rfl,HBn,B9⟩
    case measure=>simp[natOf];omega
  ·have dd1:decide ((k:Int)<(E:Int))=false:=by simp;omega
   go_wp2_with(first
    |(go_at_call 37;(refine HEn.out.mono ?_);rintro e w7 ⟨rfl,rfl⟩)
    |fail)
   go_ret
   exact⟨rfl,BB.out.trans (hbr.out.mono BB.out.size)⟩
theorem walk (a:Option Addr)(len cap:Nat)(z:List Int)(w:World)(h:IsRow .i64 w a len cap z):
 Calls Tryz.prog 6 #[.slice a len cap] w fun e w'=>e= .returned (.bool true)∧Below w.heap.size w w':=by
 obtain⟨hI,h2,h3⟩:=ints_in h
 by_cases h1:len≤200
 ·exact walk_main a len cap _ w hI h1
 ·have d1:decide ((200:Int)<(len:Int))=true:=by simp;omega
  clear h hI
  go_enter Tryz.func6,Tryz.ntmps6
  go_wp2_with(go_at_call 34;((with_reducible refine(first_link _).mono ?_);rintro e w1 ⟨rfl,hb1⟩;have B1:=Lib.hid hb1;clear hb1))
  go_ret
  exact⟨rfl,B1.out⟩
end LinkDataW
end Go.Proofs.YtjecmgkmcfkcjaaGreat
