/-
  Texts beneath the proof.
-/
import Derived.Test.YtiddkgcafpaekaaGreatJq22
set_option linter.unusedVariables false
set_option linter.unusedSimpArgs false
set_option maxRecDepth 100000
open Go.ChangeShapes Go.WideShapes Go.ChangeAt Go.RowKit
namespace Go.Proofs.YtiddkgcafpaekaaGreat
namespace Ns
open Bytes8 Blk8 Own8 OwnE LeA Ob Ga Ma Kf Mb Mc Mf Mg Fa Fb Yd Na Nb Nc Nd Nh Nl Pr8
def Free (i:Nat):Prop:=i=7∨i=8∨i=15∨i=16∨i=18∨i=19
structure HG (m:Mk):Prop where
 n0:m.h.N 0=272
 n3:m.h.N 3=16*(m.C.ds:Int)
 n5:m.h.N 5=16*(m.C.fs:Int)
 cp:m.h.cp=2
 ic:m.h.ic=0∨m.h.ic=4
 I: ∀i,0≤m.h.I i∧m.h.I i<256
 nb: ∀i,i=1∨i=6∨(9≤i∧i≤14)∨i=17∨20≤i→0≤m.h.N i∧m.h.N i≤18446744073709551615
 ta:0≤m.h.ta∧m.h.ta≤4294967295
 ti:0≤m.h.ti∧m.h.ti≤4294967295
 te:0≤m.h.te∧m.h.te≤18446744073709551615
theorem HG.turn {m m':Mk}(h:HG m)(hC:m'.C=m.C)(hcp:m'.h.cp=m.h.cp)(hic:m'.h.ic=m.h.ic)(hI:m'.h.I=m.h.I)(hta:m'.h.ta=m.h.ta)(hti:m'.h.ti=m.h.ti)(hte:m'.h.te=m.h.te)
 (hN: ∀i,¬Free i→i≠6→m'.h.N i=m.h.N i)(h6:0≤m'.h.N 6∧m'.h.N 6≤18446744073709551615):HG m':=
 {n0:=by rw[hN 0 (by unfold Free;omega) (by decide)];exact h.n0
  n3:=by rw[hN 3 (by unfold Free;omega) (by decide),hC];exact h.n3
  n5:=by rw[hN 5 (by unfold Free;omega) (by decide),hC];exact h.n5
  cp:=hcp.trans h.cp
  ic:=by rw[hic];exact h.ic
  I:=by rw[hI];exact h.I
  nb:=fun i hi=>by
   by_cases e:i=6
   ·rw[e];exact h6
   ·rw[hN i (by unfold Free;omega) e];exact h.nb i hi
  ta:=by rw[hta];exact h.ta
  ti:=by rw[hti];exact h.ti
  te:=by rw[hte];exact h.te}
theorem HG.bytes {m m':Mk}(h:HG m)(hC:m'.C=m.C)(hh:m'.h=m.h):HG m':=
 h.turn hC (by rw[hh]) (by rw[hh]) (by rw[hh]) (by rw[hh]) (by rw[hh]) (by rw[hh]) (fun i _ _=>by rw[hh]) (by rw[hh];exact h.nb 6 (by omega))
theorem hg_object {m:Mk}(h:HG m)(l:List Int)(hl:m.b.length≤10000000):HG (m.object l):=
 h.turn rfl rfl rfl rfl rfl rfl rfl (fun i hf h6=>by
  show(setN (setN m.h 6 _) 7 _).N i=_
  rw[setN_ne _ _ _ _ (by intro e;exact hf (by unfold Free;omega)),setN_ne _ _ _ _ h6]) (by
  show 0≤(setN (setN m.h 6 _) 7 _).N 6∧(setN (setN m.h 6 _) 7 _).N 6≤_
  rw[setN_ne _ _ _ _ (by decide),setN_same]
  omega)
theorem hg_setN {m:Mk}(h:HG m)(i:Nat)(v:Int)(hi:Free i):HG {m with h:=setN m.h i v}:=
 h.turn rfl rfl rfl rfl rfl rfl rfl (fun j hf h6=>setN_ne _ _ _ _ (fun e=>hf (e▸hi))) (by
  show 0≤(setN m.h i v).N 6∧(setN m.h i v).N 6≤_
  rw[setN_ne _ _ _ _ (by intro e;unfold Free at hi;omega)]
  exact h.nb 6 (by omega))
theorem hg_put1 {m:Mk}(h:HG m)(s:List Int)(hl:m.b.length≤10000000):HG (Mk.put1 m s):=
 HG.bytes (m:={m.object (Mk.dobj m s)with h:=setN (setN (m.object (Mk.dobj m s)).h 19 (max (m.h.N 19) (inSlot m.datas (Mk.dslot m s):Nat))) 15 (m.h.N 15+1)}) (hg_setN (hg_setN (hg_object h _ hl) 19 _ (by unfold Free;omega)) 15 _ (by unfold Free;omega)) rfl rfl
theorem hg_named {m:Mk}(h:HG m)(ks:List Kn)(tf:Nat)(s:List Int)(hl:m.b.length≤10000000):HG (Mk.named m ks tf s):=
 HG.bytes (m:={m.object (Mk.fobj m s)with h:=setN (m.object (Mk.fobj m s)).h 16 (m.h.N 16+1)}) (hg_setN (hg_object h _ hl) 16 _ (by unfold Free;omega)) rfl rfl
theorem hg_fieldOf {m:Mk}(h:HG m)(s:List Int)(hl:m.b.length≤10000000):HG (Mk.fieldOf m s).2:=by
 unfold Mk.fieldOf
 split
 ·exact h
 ·exact hg_named h _ _ _ hl
theorem eobj_len (m:Mk)(who:List Nat)(ps:List (List Int))(s r mo:Int)(K:Nat→Int):(Mk.eobj m who ps s r mo K).length=16+(48+16*who.length):=by
 unfold Mk.eobj
 rw[objB_len,entB_len]
 unfold padN
 omega
theorem hg_dataNew {m:Mk}(h:HG m)(I:Inv m)(nm s:List Int)(hs:AllB s)(hsl:s.length≤400)(hl:m.b.length≤9000000):HG (Mk.dataNew m nm s):=by
 have l1:=put1_len I s
 obtain⟨d1,d2,d3⟩:=dobj_len m s
 exact HG.bytes (m:=(Mk.fieldOf (Mk.put1 m s) nm).2) (hg_fieldOf (hg_put1 h s (by omega)) nm (by omega)) rfl rfl
theorem hg_dataOf {m:Mk}(h:HG m)(I:Inv m)(nm s:List Int)(hs:AllB s)(hsl:s.length≤400)(hl:m.b.length≤9000000):HG (Mk.dataOf m nm s).2:=by
 unfold Mk.dataOf
 split
 ·exact h
 ·exact hg_dataNew h I nm s hs hsl hl
theorem hg_dataAll {m:Mk}(h:HG m)(I:Inv m)(l:List PR)(hl: ∀q∈l,AllB q.1∧AllB q.2∧q.1.length≤64∧q.2.length≤256)(h16:l.length≤16)(hb:m.b.length≤1000000): ∀k,k≤l.length→HG (Mk.dataAll m (l.take k)).1
 |0,_=>h
 |k+1,hk=>by
  obtain⟨h1,h2,h3,h4,h5⟩:=inv_dataAll I l hl k (by omega)
  obtain⟨q1,q2,q3,q4⟩:=hl l[k] (List.getElem_mem _)
  have hp:(pay l[k].1 l[k].2).length≤400:=by rw[Nee.pay_len];omega
  rw[dataAll_step m l k (by omega)]
  exact hg_dataOf (hg_dataAll h I l hl h16 hb k (by omega)) h1 _ _ (pay_all q1 q2) hp (by omega)
theorem hg_link {m:Mk}(h:HG m)(arr:List Nat)(n fr item:Nat)(hl:m.b.length≤10000000):HG (Mk.link m arr n fr item).1:=by
 unfold Mk.link
 split
 ·exact HG.bytes (m:={m.object (aobj arr.length)with h:=setN (m.object (aobj arr.length)).h 18 (m.h.N 18+1)}) (hg_setN (hg_object h _ hl) 18 _ (by unfold Free;omega)) rfl rfl
 ·exact h.bytes rfl rfl
theorem chain_bds {L:Nat}{arr:List Nat}{n:Nat}(h:Chain L arr n):arr.getD 0 0≤L∧arr.getLastD 0≤L:=by
 by_cases he:arr=[]
 ·subst he
  exact⟨Nat.zero_le _,Nat.zero_le _⟩
 ·have hp:=List.length_pos_iff.2 he
  have h1:=h.fits 0 hp
  have h2:=chain_last h he
  rw[List.getD_eq_getElem?_getD,List.getElem?_eq_getElem hp]
  exact⟨by show arr[0]≤L;omega,by omega⟩
theorem hg_linked {m:Mk}(h:HG m)(I:Inv m)(item n:Nat)(hc:Chain m.b.length m.main n)(hl:m.b.length≤1000000)(h176:184≤m.b.length):HG (Mk.linked m item n):=by
 obtain⟨k1,k2,k3,k4,k5,k6,k7,k8,k9,k10,k11,k12⟩:=inv_link I (fr:=176) item hc (by omega)
 obtain⟨c1,c2⟩:=chain_bds k2
 have hL:=hg_link h m.main n 176 item (by omega)
 exact
  {n0:=hL.n0,n3:=hL.n3,n5:=hL.n5,cp:=hL.cp,ic:=hL.ic,I:=hL.I,te:=hL.te
   nb:=fun i hi=>by
    show 0≤(setN (Mk.link m m.main n 176 item).1.h 11 _).N i∧(setN (Mk.link m m.main n 176 item).1.h 11 _).N i≤_
    by_cases e:i=11
    ·subst e
     rw[setN_same]
     omega
    ·rw[setN_ne _ _ _ _ e]
     exact hL.nb i hi
   ta:=by
    show 0≤(((Mk.link m m.main n 176 item).2.1.getLastD 0:Nat):Int)∧(((Mk.link m m.main n 176 item).2.1.getLastD 0:Nat):Int)≤_
    omega
   ti:=by
    show 0≤(((Mk.link m m.main n 176 item).2.2:Nat):Int)∧(((Mk.link m m.main n 176 item).2.2:Nat):Int)≤_
    omega}
theorem hg_mark {m:Mk}(h:HG m)(e j:Nat)(hl:m.b.length≤10000000):HG (Mk.mark e m j):=by
 rw[mark_is]
 refine HG.bytes (m:=(Mk.hitched e m j).1) ?_ rfl rfl
 unfold Mk.hitched
 split
 ·exact h.bytes rfl rfl
 ·exact hg_link h _ _ _ _ hl
theorem hg_markAll {L0:Nat}{m:Mk}(g:HG m)(h:InvM L0 0 m)(e:Nat)(who:List Nat)(hw: ∀x∈who,x<m.datas.length)(h16:who.length≤16)(hl:m.b.length≤1000000): ∀i,i≤who.length→HG (Mk.markAll e m (who.take i))
 |0,_=>by rw[show Mk.markAll e m (who.take 0)=m by rw[List.take_zero];rfl];exact g
 |i+1,hi=>by
  obtain⟨h1,h2,h3,h4,h5,h6,h7⟩:=inv_markAll h e who hw h16 i (by omega)
  rw[markAll_step e m who i (by omega)]
  exact hg_mark (hg_markAll g h e who hw h16 hl i (by omega)) e _ (by omega)
theorem told_N (m:Mk)(n:Nat)(seq real mono:Int)(boot:Nat→Int)(te:Nat)(i:Nat)(h8:i≠8):(Mk.told m n seq real mono boot te).h.N i=if i=14 then mono else if i=13 then real else if i=9 then seq else if n=0∧i=12 then real else if n=0∧i=10 then seq else m.h.N i:=by
 unfold Mk.told setN
 dsimp only
 by_cases h14:i=14
 ·simp[h14]
 rw[if_neg h14,if_neg h14]
 by_cases h13:i=13
 ·simp[h13]
 rw[if_neg h13,if_neg h13]
 by_cases h9:i=9
 ·simp[h9]
 rw[if_neg h9,if_neg h9,if_neg h8]
 by_cases hn:n=0
 ·simp[hn]
 ·simp[hn]
theorem hg_told {m:Mk}(h:HG m)(n:Nat)(seq real mono:Int)(K:Nat→Int)(te:Nat)(hs:0≤seq∧seq≤18446744073709551615)(hr:0≤real∧real≤18446744073709551615)(hm:0≤mono∧mono≤18446744073709551615)(hK:IdOk K)(ht:te≤10000000):HG (Mk.told m n seq real mono K te):=by
 have hst: ∀i,i≠8→i≠14→i≠13→i≠9→i≠12→i≠10→(Mk.told m n seq real mono K te).h.N i=m.h.N i:=fun i a b c d e f=>by
  rw[told_N _ _ _ _ _ _ _ _ a,if_neg b,if_neg c,if_neg d,if_neg (fun x=>e x.2),if_neg (fun x=>f x.2)]
 exact
  {n0:=(hst 0 (by decide) (by decide) (by decide) (by decide) (by decide) (by decide)).trans h.n0
   n3:=(hst 3 (by decide) (by decide) (by decide) (by decide) (by decide) (by decide)).trans h.n3
   n5:=(hst 5 (by decide) (by decide) (by decide) (by decide) (by decide) (by decide)).trans h.n5
   cp:=by
    have e:(Mk.told m n seq real mono K te).h.cp=m.h.cp:=by unfold Mk.told;dsimp only;split<;>rfl
    rw[e];exact h.cp
   ic:=by
    have e:(Mk.told m n seq real mono K te).h.ic=m.h.ic:=by unfold Mk.told;dsimp only;split<;>rfl
    rw[e];exact h.ic
   I:=fun i=>by
    have e:(Mk.told m n seq real mono K te).h.I i=if 32≤i∧i<48 then K (i-32)else m.h.I i:=by
     unfold Mk.told
     by_cases h0:n=0
     ·rw[if_pos h0];rfl
     ·rw[if_neg h0];rfl
    rw[e]
    split
    ·exact hK _
    ·exact h.I i
   nb:=fun i hi=>by
    rw[told_N _ _ _ _ _ _ _ _ (by omega)]
    repeat' split
    all_goals first|assumption|exact h.nb i hi
   ta:=by
    have e:(Mk.told m n seq real mono K te).h.ta=m.h.ta:=by unfold Mk.told;dsimp only;split<;>rfl
    rw[e];exact h.ta
   ti:=by
    have e:(Mk.told m n seq real mono K te).h.ti=m.h.ti:=by unfold Mk.told;dsimp only;split<;>rfl
    rw[e];exact h.ti
   te:=by
    show 0≤(te:Int)∧(te:Int)≤_
    omega}
theorem entered_good {m:Mk}(h:Inv m)(g:HG m)(L:List PR)(hl: ∀q∈L,AllB q.1∧AllB q.2∧q.1.length≤64∧q.2.length≤256)(h16:L.length≤16)(hb:m.b.length≤32768)(real mono:Int)(K:Nat→Int)
 (hr:0≤real∧real≤18446744073709551615)(hm:0≤mono∧mono≤18446744073709551615)(hK:IdOk K)(h9:m.h.N 9≠18446744073709551615):
 Inv (Mk.entered m L real mono K)∧HG (Mk.entered m L real mono K)∧(Mk.entered m L real mono K).C=m.C∧(Mk.entered m L real mono K).b=(Mk.grown m L real mono K).b∧(Mk.entered m L real mono K).h.N 9=m.h.N 9+1:=by
 have n9:=g.nb 9 (by omega)
 obtain⟨i1,i2,i3,i4,i5⟩:=inv_dataAll h L hl L.length (yR _)
 have gd:=hg_dataAll g h L hl h16 (by omega) L.length (yR _)
 rw[List.take_length]at i1 i2 i3 i4 i5 gd
 unfold Mk.entered Mk.grown
 dsimp only
 generalize hmd:Mk.dataAll m L=s at*
 obtain⟨md,who⟩:=s
 dsimp only at*
 obtain⟨n8,hn8,hch8,hn8b⟩:=i1.mn
 have hel:(Mk.eobj md who (L.map fun q=>pay q.1 q.2) (m.h.N 9+1) real mono K).length%8=0∧0<(Mk.eobj md who (L.map fun q=>pay q.1 q.2) (m.h.N 9+1) real mono K).length∧(Mk.eobj md who (L.map fun q=>pay q.1 q.2) (m.h.N 9+1) real mono K).length≤400∧64≤(Mk.eobj md who (L.map fun q=>pay q.1 q.2) (m.h.N 9+1) real mono K).length:=by
  have e:=eobj_len md who (L.map fun q=>pay q.1 q.2) (m.h.N 9+1) real mono K
  omega
 generalize Mk.eobj md who (L.map fun q=>pay q.1 q.2) (m.h.N 9+1) real mono K=eo at*
 obtain⟨e1,e2,e3,e4⟩:=hel
 have I2:=inv_object i1 eo e1 e2
 have G2:=hg_object gd eo (by omega)
 have hol:=object_len md eo
 have hC2:Chain (md.object eo).b.length (md.object eo).main n8:=hch8.mono (by omega)
 have hn2:(md.object eo).h.N 8=(n8:Int):=hn8
 have h304:=i1.len
 have e8:(m.h.N 8).toNat=n8:=by rw[←i5.n8,hn8];rfl
 rw[e8]
 obtain⟨g1,g2,g3,g4,g5,g6,g7⟩:=inv_linked I2 md.b.length n8 hn2 hC2 (by omega) (by omega)
 have G3:=hg_linked G2 I2 md.b.length n8 hC2 (by omega) (by omega)
 generalize Mk.linked (md.object eo) md.b.length n8=mL at*
 have hM0:InvM md.b.length 0 mL:=⟨g1,fun k' hk'=>by rw[g4]at hk';exact(i1.dat k' hk').2.2.2.2,by omega⟩
 have hw: ∀y∈who,y<mL.datas.length:=fun y hy=>by rw[g4];exact i3 y hy
 obtain⟨k1,k2,k3,k4,k5,k6,k7⟩:=inv_markAll hM0 md.b.length who hw (by omega) who.length (yR _)
 have G4:=hg_markAll G3 hM0 md.b.length who hw (by omega) (by omega) who.length (yR _)
 rw[List.take_length]at k1 k2 k3 k4 k5 k6 k7 G4
 refine⟨inv_told k1.inv _ _ _ _ _ _,hg_told G4 _ _ _ _ _ _ (by omega) hr hm hK (by omega),?_,rfl,?_⟩
 ·show(Mk.markAll md.b.length mL who).C=m.C
  rw[k5,g5]
  exact i5.C
 ·rw[told_N _ _ _ _ _ _ _ _ (by decide)]
  simp
end Ns
namespace Zd
open Bytes8 Ob Ga Ma Mg Na Nc Nh Fa Za Zb Zc
theorem repo_rd {b:List Int}{os:List O}(h:RepO b os){a j:Nat}{s:Sh}(hs:shp os a=some s)(hj:j<s.n):u8 b (a+16+8*j)=wd os a j:=by
 obtain⟨o,ho,hsh⟩:=shp_some hs
 subst hsh
 have hj2:j<o.ws.length:=hj
 obtain⟨p,q,h1,h2⟩:=obj_split _ _ _ _ ho
 have hok:=h.ok o (obj_mem _ _ _ _ ho)
 have ht:(b.take 272).length=272:=by rw[List.length_take];have:=h.rep.len;omega
 have e:b=(b.take 272++p)++(o.enc++q):=by conv=>lhs;rw[h.rep.is,h1,←List.append_assoc]
 rw[e,Nat.add_assoc,u8_app _ _ a (16+8*j) (by rw[List.length_append];omega)]
 have e2:o.enc++q=front o.k o.body.length++(nums o.ws++(o.tl++List.replicate (padN o.body.length) 0++q)):=by
  unfold O.enc objB O.body
  simp
 rw[e2,u8_app _ _ 16 (8*j) (front_len _ _)]
 have hw:wd os a j=o.ws.getD j 0:=by unfold wd;rw[ho]
 rw[hw]
 refine u8_nums _ _ j hj2 ?_
 have e3:o.ws.getD j 0=o.ws[j]:=by simp[List.getElem?_eq_getElem hj2]
 rw[e3]
 exact hok.ws _ (List.getElem_mem hj2)
theorem wd_bd {b:List Int}{os:List O}(h:RepO b os){a j:Nat}:0≤wd os a j∧wd os a j≤18446744073709551615:=by
 unfold wd
 cases ho:obj 272 os a with
 |none=>show(0:Int)≤0∧(0:Int)≤18446744073709551615;decide
 |some o=>
  have hok:=h.ok o (obj_mem _ _ _ _ ho)
  show 0≤o.ws.getD j 0∧o.ws.getD j 0≤_
  by_cases hj:j<o.ws.length
  ·have e3:o.ws.getD j 0=o.ws[j]:=by simp[List.getElem?_eq_getElem hj]
   rw[e3]
   exact hok.ws _ (List.getElem_mem hj)
  ·have e3:o.ws.getD j 0=0:=by simp[List.getElem?_eq_none (Nat.le_of_not_lt hj)]
   rw[e3];decide
def nameL (t:List Int):List Int:=t.takeWhile fun x=>x !=61
theorem nameL_pay (n v:List Int)(h: ∀x∈n,x≠61):nameL (pay n v)=n:=by
 unfold nameL pay
 rw[List.append_assoc,List.takeWhile_append_of_pos (fun x hx=>by simpa using h x hx)]
 simp
def byN (l:List Kn)(nm:List Int):List Nat:=((l.filter fun k=>nameL k.text==nm).map Kn.at_).reverse
theorem byN_snoc (l:List Kn)(k:Kn)(nm:List Int):byN (l++ [k]) nm=if nameL k.text=nm then k.at_::byN l nm else byN l nm:=by
 unfold byN
 rw[List.filter_append]
 by_cases h:nameL k.text=nm
 ·simp[h]
 ·simp[h]
theorem mem_byN {l:List Kn}{nm:List Int}{x:Nat}(h:x∈byN l nm): ∃d∈l,nameL d.text=nm∧d.at_=x:=by
 unfold byN at h
 rw[List.mem_reverse]at h
 obtain⟨d,hd,e⟩:=List.mem_map.1 h
 rw[List.mem_filter]at hd
 exact⟨d,hd.1,by simpa using hd.2,e⟩
structure DatW (m:Mk)(os:List O)(i:Nat)(d:Kn)(hs:List Nat):Prop where
 sh:shp os d.at_=some ⟨1,6,d.text,(1,i)⟩
 w0:wd os d.at_ 0=Mk.sum m d.text
 w3:wd os d.at_ 3=(hs.headD 0:Nat)
 w4:wd os d.at_ 4=(d.arrays.headD 0:Nat)
 w5:wd os d.at_ 5=(d.count:Nat)
 cnt:d.count=hs.length
 slot:d.slot=Mk.dslot m d.text
 arr:ArrW os (i+1) d.arrays hs.tail
structure FldW (m:Mk)(os:List O)(i:Nat)(f:Kn)(l:List Kn):Prop where
 sh:shp os f.at_=some ⟨2,3,f.text,(2,i)⟩
 w0:wd os f.at_ 0=Mk.sum m f.text
 slot:f.slot=Mk.fslot m f.text
 fol:Fol (fun x=>wd os x 2) (wd os f.at_ 2) (byN l f.text)
structure Hold (m:Mk)(os:List O)(hs:Nat→List Nat)(mi:List Nat)(es:List (Nat×List Int)):Prop where
 rep:RepO m.b os
 td:TabW os 272 4 m.C.ds m.datas
 tf:TabW os (288+16*m.C.ds) 5 m.C.fs m.fields
 dat: ∀i (h:i<m.datas.length),DatW m os i m.datas[i] (hs i)
 fld: ∀i (h:i<m.fields.length),FldW m os i m.fields[i] m.datas
 asc:Asc m.datas
 ascF:Asc m.fields
 ownF: ∀d∈m.datas,∃f∈m.fields,f.text=nameL d.text
 dtx:(m.datas.map Kn.text).Nodup
 ftx:(m.fields.map Kn.text).Nodup
 none: ∀i,m.datas.length≤i→hs i=[]
 mn:ArrW os 0 m.main mi
 ent: ∀i (h:i<es.length),shp os es[i].1=some ⟨3,0,es[i].2,(3,i)⟩
 cov: ∀x s,shp os x=some s→x=272∨x=288+16*m.C.ds∨(∃d∈m.datas,d.at_=x)∨(∃f∈m.fields,f.at_=x)∨(∃e∈es,e.1=x)∨s.k=6
theorem sum_C {m m':Mk}(h:m'.C=m.C)(s:List Int):Mk.sum m' s=Mk.sum m s:=by unfold Mk.sum;rw[h]
theorem dslot_C {m m':Mk}(h:m'.C=m.C)(s:List Int):Mk.dslot m' s=Mk.dslot m s:=by unfold Mk.dslot;rw[h,sum_C h]
theorem fslot_C {m m':Mk}(h:m'.C=m.C)(s:List Int):Mk.fslot m' s=Mk.fslot m s:=by unfold Mk.fslot;rw[h,sum_C h]
theorem DatW.stp {m m':Mk}{os os':List O}{i:Nat}{d:Kn}{hs:List Nat}(h:DatW m os i d hs)(hC:m'.C=m.C){S:Nat→Nat→Prop}(p:Stp os os' S)(h1: ∀j,j≠1→j≠2→ ¬S d.at_ j)(h2: ∀x j k n,shp os x=some ⟨6,n,[],(i+1,k)⟩→ ¬S x j):DatW m' os' i d hs:=
 {sh:=p.shp _ _ h.sh
  w0:=by rw[p.wd _ _ _ h.sh (h1 0 (by decide) (by decide)),sum_C hC];exact h.w0
  w3:=by rw[p.wd _ _ _ h.sh (h1 3 (by decide) (by decide))];exact h.w3
  w4:=by rw[p.wd _ _ _ h.sh (h1 4 (by decide) (by decide))];exact h.w4
  w5:=by rw[p.wd _ _ _ h.sh (h1 5 (by decide) (by decide))];exact h.w5
  cnt:=h.cnt
  slot:=by rw[dslot_C hC];exact h.slot
  arr:=h.arr.stp p h2}
def dataO (m:Mk)(s:List Int)(i:Nat):O:=⟨1,[Mk.sum m s,0,0,0,0,0],s,(1,i)⟩
def fieldO (m:Mk)(s:List Int)(i:Nat):O:=⟨2,[Mk.sum m s,0,0],s,(2,i)⟩
theorem dataO_ok (m:Mk){s:List Int}(i:Nat)(hs:AllB s)(hl:s.length≤400):(dataO m s i).Ok:=
 {k:=⟨by show(1:Int)≤1;decide,by show(1:Int)≤7;decide⟩
  ws:=fun x hx=>by
   have h1:=ofS_bd m.C.keyed (Cf.file m.C) s
   simp[dataO]at hx
   rcases hx with rfl|rfl
   ·exact h1
   ·decide
  tl:=hs
  n:=by
   rw[O.body_len]
   show 8*6+s.length≤_
   omega}
theorem fieldO_ok (m:Mk){s:List Int}(i:Nat)(hs:AllB s)(hl:s.length≤400):(fieldO m s i).Ok:=
 {k:=⟨by show(1:Int)≤2;decide,by show(2:Int)≤7;decide⟩
  ws:=fun x hx=>by
   have h1:=ofS_bd m.C.keyed (Cf.file m.C) s
   simp[fieldO]at hx
   rcases hx with rfl|rfl
   ·exact h1
   ·decide
  tl:=hs
  n:=by
   rw[O.body_len]
   show 8*3+s.length≤_
   omega}
theorem asc_snoc {l:List Kn}{k:Kn}(h:Asc l)(hk: ∀d∈l,d.at_<k.at_):Asc (l++ [k]):=by
 show((l++ [k]).map Kn.at_).Pairwise (· < ·)
 rw[List.map_append,List.pairwise_append]
 refine⟨h,by simp,fun a ha b hb=>?_⟩
 obtain⟨d,hd,rfl⟩:=List.mem_map.1 ha
 simp at hb
 subst hb
 exact hk d hd
theorem Hold.dat_lt {m:Mk}{os:List O}{hs:Nat→List Nat}{mi:List Nat}{es:List (Nat×List Int)}(h:Hold m os hs mi es){d:Kn}(hd:d∈m.datas): ∃i,shp os d.at_=some ⟨1,6,d.text,(1,i)⟩∧d.at_+64≤endO os:=by
 obtain⟨i,hi,e⟩:=List.mem_iff_getElem.1 hd
 have h1:=(h.dat i hi).sh
 rw[e]at h1
 exact⟨i,h1,by have:=shp_lt h1;dsimp only at this;omega⟩
theorem Hold.fld_lt {m:Mk}{os:List O}{hs:Nat→List Nat}{mi:List Nat}{es:List (Nat×List Int)}(h:Hold m os hs mi es){d:Kn}(hd:d∈m.fields): ∃i,shp os d.at_=some ⟨2,3,d.text,(2,i)⟩∧d.at_+40≤endO os:=by
 obtain⟨i,hi,e⟩:=List.mem_iff_getElem.1 hd
 have h1:=(h.fld i hi).sh
 rw[e]at h1
 exact⟨i,h1,by have:=shp_lt h1;dsimp only at this;omega⟩
end Zd
namespace Ze
open Bytes8 Ob Ga Ma Mb Mg Na Nb Nc Nh Za Zb Zc Zd
variable {m : Mk} {os : List O} {hs : Nat → List Nat} {mi : List Nat} {es : List (Nat × List Int)}
structure Half (m:Mk)(os os2:List O)(b2:List Int)(s:List Int)(L:Nat):Prop where
 rep:RepO b2 os2
 td:TabW os2 272 4 m.C.ds (m.datas++ [⟨s,L,Mk.dslot m s,0,[]⟩])
 stp:Stp os os2 (fun x i=>x=272∨(i=1∧ ∃d∈m.datas,d.at_=x))
 new:shp os2 L=some ⟨1,6,s,(1,m.datas.length)⟩
 w: ∀i,i≠0→wd os2 L i=0
 w0:wd os2 L 0=Mk.sum m s
 old: ∀x q,shp os2 x=some q→x=L∨shp os x=some q
theorem half_new (h:Hold m os hs mi es){s:List Int}(hs':AllB s)(hsl:s.length≤400)(hds:0<m.C.ds)(hb:m.b.length≤1000000): ∃os2,Half m os os2 (Mk.put1 m s).b s m.b.length:=by
 have hsz:=h.rep.size
 have r1:=h.rep.push (dataO m s m.datas.length) (dataO_ok m _ hs' hsl)
 have q1:=shp_push os (dataO m s m.datas.length)
 have w1:=wd_push os (dataO m s m.datas.length)
 have s1:=Stp.push os (dataO m s m.datas.length) (fun x i=>x=272∨(i=1∧ ∃d∈m.datas,d.at_=x))
 have se:=Stp.push os (dataO m s m.datas.length) (fun _ _=>False)
 rw[←hsz]at q1 w1
 generalize os++ [dataO m s m.datas.length]=o1 at*
 have hnew:shp o1 m.b.length=some ⟨1,6,s,(1,m.datas.length)⟩:=by rw[q1,if_pos rfl];rfl
 have hdl: ∀d∈m.datas,(∃s2,shp o1 d.at_=some s2∧1<s2.n)∧d.at_≠272∧d.at_<m.b.length:=fun d hd=>by
  obtain⟨i,h1,h2⟩:=h.dat_lt hd
  obtain⟨g,hg⟩:=h.td.sh
  refine⟨⟨_,s1.shp _ _ h1,by dsimp only;decide⟩,fun e=>?_,by omega⟩
  rw[e,hg]at h1
  injection h1 with h1
  injection h1 with h1
  exact absurd h1 (by first|decide|(dsimp only;decide))
 have t1:TabW o1 272 4 m.C.ds m.datas:=h.td.stp se (fun _ h=>h) (fun d hd=>by
  obtain⟨i,h1,_⟩:=h.dat_lt hd
  exact⟨⟨_,h1⟩,fun h=>h⟩)
 obtain⟨g,hg⟩:=h.td.sh
 have h272:m.b.length≠272:=by have:=shp_lt hg;omega
 obtain⟨o2,r2,s2,q2,t2⟩:=hung_W r1 t1 ⟨s,m.b.length,Mk.dslot m s,0,[]⟩ hnew (by first|decide|(dsimp only;decide)) (by rw[w1,if_pos rfl];rfl) h272 hdl h.asc (dslot_lt hds s) (by
  have:=(dobj_len m s)
  rw[List.length_append]
  show m.b.length+(Mk.dobj m s).length≤_
  omega)
 have hw2: ∀i,wd o2 m.b.length i=wd o1 m.b.length i:=fun i=>s2.wd _ _ _ hnew (by
  rintro(h3|⟨_,d,hd,h3⟩)
  ·exact h272 h3
  ·have:=(hdl d hd).2.2;omega)
 refine⟨o2,r2,t2,s1.trans s2,by rw[q2];exact hnew,fun i hi=>?_,?_,fun x q hq=>?_⟩
 ·rw[hw2,w1,if_pos rfl]
  show [Mk.sum m s,0,0,0,0,0].getD i 0=0
  rcases i with _|_|_|_|_|_|i
  ·exact absurd rfl hi
  all_goals rfl
 ·rw[hw2,w1,if_pos rfl];rfl
 ·rw[q2,q1]at hq
  by_cases e:x=m.b.length
  ·exact .inl e
  ·rw[if_neg e]at hq;exact .inr hq
structure Full (m:Mk)(os os3:List O)(m3:Mk)(s nm:List Int)(L k:Nat):Prop where
 rep:RepO m3.b os3
 td:TabW os3 272 4 m.C.ds m3.datas
 tf:TabW os3 (288+16*m.C.ds) 5 m.C.fs m3.fields
 C:m3.C=m.C
 main:m3.main=m.main
 datas:m3.datas=m.datas++ [⟨s,L,Mk.dslot m s,0,[]⟩]
 stp:Stp os os3 (fun x i=>x=272∨x=288+16*m.C.ds∨(i=1∧((∃d∈m.datas,d.at_=x)∨ ∃d∈m.fields,d.at_=x)))
 new:shp os3 L=some ⟨1,6,s,(1,m.datas.length)⟩
 w: ∀i,i≠0→wd os3 L i=0
 w0:wd os3 L 0=Mk.sum m s
 asc:Asc m3.fields
 ftx:(m3.fields.map Kn.text).Nodup
 sub: ∀f∈m.fields,f∈m3.fields
 fld: ∀i (h:i<m3.fields.length),FldW m os3 i m3.fields[i] m.datas
 k: ∃i,∃h:i<m3.fields.length,m3.fields[i].text=nm∧m3.fields[i].at_=k
 old: ∀x q,shp os3 x=some q→x=L∨(∃f∈m3.fields,f.at_=x)∨shp os x=some q
theorem k_ne {os:List O}{x y:Nat}{s t:Sh}(h:shp os x=some s)(k:shp os y=some t)(hk:s.k≠t.k):x≠y:=fun e=>by
 rw[e,k]at h
 injection h with h
 exact hk (by rw[h])
theorem full_new (h:Hold m os hs mi es)(I:Inv m){s nm:List Int}(hs':AllB s)(hsl:s.length≤400)(hn:AllB nm)(hnl:nm.length≤64)(hnm:nameL s=nm)(hb:m.b.length≤1000000):
 ∃os3,Full m os os3 (Mk.fieldOf (Mk.put1 m s) nm).2 s nm m.b.length (Mk.fieldOf (Mk.put1 m s) nm).1:=by
 obtain⟨os2,H⟩:=half_new h hs' hsl I.ds.1 hb
 have hsz:=h.rep.size
 have hsz2:=H.rep.size
 have hpl:=put1_len I s
 have hdl:=dobj_len m s
 obtain⟨g4,hg4⟩:=h.td.sh
 obtain⟨g5,hg5⟩:=h.tf.sh
 have hL: ∀ {x:Nat} {q:Sh},shp os x=some q→x≠m.b.length:=fun hx=>by have:=shp_lt hx;omega
 have tf2:TabW os2 (288+16*m.C.ds) 5 m.C.fs m.fields:=h.tf.stp H.stp (fun i h1=>by
  rcases h1 with h1|⟨_,d,hd,h1⟩
  ·omega
  ·obtain⟨j,h2,_⟩:=h.dat_lt hd
   exact k_ne h2 hg5 (by first|decide|(dsimp only;decide)) h1) (fun d hd=>by
  obtain⟨j,h2,_⟩:=h.fld_lt hd
  refine⟨⟨_,h2⟩,?_⟩
  rintro(h1|⟨_,e,he,h1⟩)
  ·exact k_ne h2 hg4 (by first|decide|(dsimp only;decide)) h1
  ·obtain⟨j2,h3,_⟩:=h.dat_lt he
   exact k_ne h3 h2 (by first|decide|(dsimp only;decide)) h1)
 have fld2: ∀i (hi:i<m.fields.length),FldW m os2 i m.fields[i] m.datas:=fun i hi=>by
  have F:=h.fld i hi
  have hno: ∀j,j≠1→ ∀x q,shp os x=some q→q.k≠4→wd os2 x j=wd os x j:=fun j hj x q hx hq=>H.stp.wd _ _ _ hx (by
   rintro(h1|⟨h1,_⟩)
   ·rw[h1,hg4]at hx
    injection hx with hx
    rw[←hx]at hq
    exact hq rfl
   ·exact hj h1)
  exact
   {sh:=H.stp.shp _ _ F.sh
    w0:=by rw[hno 0 (by first|decide|(dsimp only;decide)) _ _ F.sh (by first|decide|(dsimp only;decide))];exact F.w0
    slot:=F.slot
    fol:=by
     rw[hno 2 (by first|decide|(dsimp only;decide)) _ _ F.sh (by first|decide|(dsimp only;decide))]
     refine Fol.cong _ _ F.fol (fun x hx=>?_)
     obtain⟨d,hd,_,e⟩:=mem_byN hx
     obtain⟨j,h2,_⟩:=h.dat_lt hd
     rw[←e]
     exact hno 2 (by first|decide|(dsimp only;decide)) _ _ h2 (by first|decide|(dsimp only;decide))}
 unfold Mk.fieldOf
 have e1:(Mk.put1 m s).fields=m.fields:=rfl
 rw[e1]
 cases hf:findK m.fields nm with
 |some kn=>
  dsimp only
  have hm:=findK_mem hf
  have htx:kn.text=nm:=by
   unfold findK at hf
   have:=List.find?_some hf
   simpa using this
  obtain⟨i,hi,e⟩:=List.mem_iff_getElem.1 hm
  exact⟨os2,
   {rep:=H.rep,td:=H.td,tf:=tf2,C:=rfl,main:=rfl,datas:=rfl
    stp:=H.stp.mono fun x j _ _ h1=>by
     rcases h1 with h1|⟨h1,h2⟩
     ·exact .inl h1
     ·exact .inr (.inr ⟨h1,.inl h2⟩)
    new:=H.new,w:=H.w,w0:=H.w0,asc:=h.ascF,ftx:=h.ftx,sub:=fun f hf=>hf,fld:=fld2
    k:=⟨i,hi,by show m.fields[i].text=nm;rw[e];exact htx,by show m.fields[i].at_=kn.at_;rw[e]⟩
    old:=fun x q hq=>(H.old x q hq).imp id .inr}⟩
 |none=>
  dsimp only
  have hnone: ∀f∈m.fields,f.text≠nm:=fun f hf2=>by
   unfold findK at hf
   have:=List.find?_eq_none.1 hf f hf2
   simpa using this
  have hnodata:byN m.datas nm=[]:=by
   cases hbn:byN m.datas nm with
   |nil=>rfl
   |cons x r=>
    obtain⟨d,hd,h1,_⟩:=mem_byN (show x∈byN m.datas nm by rw[hbn];exact List.mem_cons_self ..)
    obtain⟨f,hf2,h2⟩:=h.ownF d hd
    exact absurd (h2.trans h1) (hnone f hf2)
  have hbl:(Mk.put1 m s).b.length≤2000000:=by omega
  have hfo:=fobj_len (Mk.put1 m s) nm
  generalize hm1:Mk.put1 m s=m1 at*
  have hC1:m1.C=m.C:=by rw[←hm1];rfl
  have hd1:m1.datas=m.datas++ [⟨s,m.b.length,Mk.dslot m s,0,[]⟩]:=by rw[←hm1];rfl
  have hf1:m1.fields=m.fields:=e1
  have hmn1:m1.main=m.main:=by rw[←hm1];rfl
  have r1:=H.rep.push (fieldO m1 nm m.fields.length) (fieldO_ok m1 _ hn (by omega))
  have q1:=shp_push os2 (fieldO m1 nm m.fields.length)
  have w1:=wd_push os2 (fieldO m1 nm m.fields.length)
  have se:=Stp.push os2 (fieldO m1 nm m.fields.length) (fun _ _=>False)
  rw[←hsz2]at q1 w1
  generalize os2++ [fieldO m1 nm m.fields.length]=o1 at*
  have hL2: ∀ {x:Nat} {q:Sh},shp os2 x=some q→x<m1.b.length:=fun hx=>by have:=shp_lt hx;omega
  have hnew:shp o1 m1.b.length=some ⟨2,3,nm,(2,m.fields.length)⟩:=by rw[q1,if_pos rfl];rfl
  have hfl: ∀d∈m.fields,(∃s2,shp o1 d.at_=some s2∧1<s2.n)∧d.at_≠288+16*m.C.ds∧d.at_<m1.b.length:=fun d hd=>by
   obtain⟨i,h1,h2⟩:=h.fld_lt hd
   have h3:=H.stp.shp _ _ h1
   exact⟨⟨_,se.shp _ _ h3,by dsimp only;decide⟩,k_ne h1 hg5 (by first|decide|(dsimp only;decide)),hL2 h3⟩
  have tf1:TabW o1 (288+16*m.C.ds) 5 m.C.fs m.fields:=tf2.stp se (fun _ h=>h) (fun d hd=>by
   obtain⟨i,h1,_⟩:=h.fld_lt hd
   exact⟨⟨_,H.stp.shp _ _ h1⟩,fun h=>h⟩)
  have hg5':=H.stp.shp _ _ hg5
  have hg4':=H.stp.shp _ _ hg4
  obtain⟨o3,r3,s3,q3,t3⟩:=hung_W r1 tf1 ⟨nm,m1.b.length,Mk.fslot m1 nm,0,[]⟩ hnew (by first|decide|(dsimp only;decide)) (by rw[w1,if_pos rfl];rfl) (by have:=hL2 hg5';dsimp only;omega) hfl h.ascF (by rw[fslot_C hC1];exact fslot_lt I.fs.1 nm) (by
   rw[List.length_append]
   show m1.b.length+(Mk.fobj m1 nm).length≤_
   omega)
  have hst: ∀x q,shp os2 x=some q→shp o3 x=some q:=fun x q hx=>by rw[q3];exact se.shp _ _ hx
  have hwd: ∀x i q,shp os2 x=some q→q.k≠5→ ¬(i=1∧q.k=2)→wd o3 x i=wd os2 x i:=fun x i q hx hq hi=>by
   rw[s3.wd x i q (se.shp _ _ hx) (by
    rintro(h1|⟨h1,d,hd,h2⟩)
    ·rw[h1,hg5']at hx
     injection hx with hx
     rw[←hx]at hq
     exact hq rfl
    ·obtain⟨j,h3,_⟩:=h.fld_lt hd
     have h4:=H.stp.shp _ _ h3
     rw[h2,hx]at h4
     injection h4 with h4
     exact hi ⟨h1,by rw[h4]⟩)]
   rw[w1,if_neg (by have:=hL2 hx;omega)]
  have hwn: ∀i,wd o3 m1.b.length i=[Mk.sum m1 nm,0,0].getD i 0:=fun i=>by
   rw[s3.wd _ _ _ hnew (by
    rintro(h1|⟨_,d,hd,h1⟩)
    ·have:=hL2 hg5';omega
    ·have:=(hfl d hd).2.2;omega),w1,if_pos rfl]
   rfl
  refine⟨o3,
   {rep:=?_,td:=?_,tf:=?_,C:=hC1,main:=hmn1,datas:=hd1,stp:=?_
    new:=hst _ _ H.new
    w:=fun i hi=>by rw[hwd _ _ _ H.new (by first|decide|(dsimp only;decide)) (fun h=>absurd h.2 (by first|decide|(dsimp only;decide)))];exact H.w i hi
    w0:=by rw[hwd _ _ _ H.new (by first|decide|(dsimp only;decide)) (fun h=>absurd h.2 (by first|decide|(dsimp only;decide)))];exact H.w0
    asc:=?_,ftx:=?_,sub:=?_,fld:=?_,k:=?_,old:=?_}⟩
  ·show RepO (hung (m1.b++Mk.fobj m1 nm) m.fields (Mk.tf m1) m1.b.length (Mk.fslot m1 nm)) o3
   have e2:Mk.tf m1=288+16*m.C.ds+16:=by unfold Mk.tf;rw[hC1];omega
   rw[e2]
   exact r3
  ·show TabW o3 272 4 m.C.ds m1.datas
   rw[hd1]
   have t0:=H.td.stp se (fun _ h=>h) (fun d hd=>by
    rcases List.mem_append.1 hd with hd|hd
    ·obtain⟨i,h1,_⟩:=h.dat_lt hd
     exact⟨⟨_,H.stp.shp _ _ h1⟩,fun h=>h⟩
    ·rw[List.mem_singleton]at hd
     subst hd
     exact⟨⟨_,H.new⟩,fun h=>h⟩)
   refine t0.stp s3 (fun i h1=>?_) (fun d hd=>?_)
   ·rcases h1 with h1|⟨_,f,hf2,h1⟩
    ·omega
    ·obtain⟨j,h2,_⟩:=h.fld_lt hf2
     exact k_ne h2 hg4 (by first|decide|(dsimp only;decide)) h1
   ·rcases List.mem_append.1 hd with hd|hd
    ·obtain⟨i,h1,_⟩:=h.dat_lt hd
     refine⟨⟨_,se.shp _ _ (H.stp.shp _ _ h1)⟩,?_⟩
     rintro(h3|⟨_,f,hf2,h3⟩)
     ·exact k_ne h1 hg5 (by first|decide|(dsimp only;decide)) h3
     ·obtain⟨j,h2,_⟩:=h.fld_lt hf2
      exact k_ne h2 h1 (by first|decide|(dsimp only;decide)) h3
    ·rw[List.mem_singleton]at hd
     subst hd
     refine⟨⟨_,se.shp _ _ H.new⟩,?_⟩
     rintro(h3|⟨_,f,hf2,h3⟩)
     ·exact hL hg5 h3.symm
     ·obtain⟨j,h2,_⟩:=h.fld_lt hf2
      exact hL h2 h3
  ·show TabW o3 (288+16*m.C.ds) 5 m.C.fs (m1.fields++ [⟨nm,m1.b.length,Mk.fslot m1 nm,0,[]⟩])
   rw[hf1]
   exact t3
  ·refine⟨fun x q hx=>hst _ _ (H.stp.shp _ _ hx),fun x i q hx hS=>?_⟩
   rw[hwd x i q (H.stp.shp _ _ hx) (fun e=>?_) (fun e=>?_),H.stp.wd x i q hx]
   ·rintro(h1|⟨h1,h2⟩)
    ·exact hS (.inl h1)
    ·exact hS (.inr (.inr ⟨h1,.inl h2⟩))
   ·rcases h.cov x q hx with h1|h1|⟨d,hd,h1⟩|⟨d,hd,h1⟩|⟨d,hd,h1⟩|h1
    ·exact hS (.inl h1)
    ·exact hS (.inr (.inl h1))
    ·obtain⟨j,h2,_⟩:=h.dat_lt hd
     rw[h1,hx]at h2;injection h2 with h2;rw[h2]at e;cases e
    ·obtain⟨j,h2,_⟩:=h.fld_lt hd
     rw[h1,hx]at h2;injection h2 with h2;rw[h2]at e;cases e
    ·obtain⟨j,hj,h2⟩:=List.mem_iff_getElem.1 hd
     have h3:=h.ent j hj
     rw[h2,h1,hx]at h3;injection h3 with h3;rw[h3]at e;cases e
    ·rw[h1]at e;cases e
   ·rcases h.cov x q hx with h1|h1|⟨d,hd,h1⟩|⟨d,hd,h1⟩|⟨d,hd,h1⟩|h1
    ·exact hS (.inl h1)
    ·exact hS (.inr (.inl h1))
    ·exact hS (.inr (.inr ⟨e.1,.inl ⟨d,hd,h1⟩⟩))
    ·exact hS (.inr (.inr ⟨e.1,.inr ⟨d,hd,h1⟩⟩))
    ·obtain⟨j,hj,h2⟩:=List.mem_iff_getElem.1 hd
     have h3:=h.ent j hj
     rw[h2,h1,hx]at h3;injection h3 with h3;rw[h3]at e;cases e.2
    ·rw[h1]at e;cases e.2
  ·show Asc (m1.fields++ [(⟨nm,m1.b.length,Mk.fslot m1 nm,0,[]⟩:Kn)])
   rw[hf1]
   exact asc_snoc h.ascF (fun d hd=>(hfl d hd).2.2)
  ·show((m1.fields++ [(⟨nm,m1.b.length,Mk.fslot m1 nm,0,[]⟩:Kn)]).map Kn.text).Nodup
   rw[hf1,List.map_append,List.nodup_append]
   refine⟨h.ftx,by simp,fun a ha b hb2=>?_⟩
   obtain⟨f,hf2,rfl⟩:=List.mem_map.1 ha
   simp at hb2
   subst hb2
   exact hnone f hf2
  ·intro f hf2
   show f∈m1.fields++ [_]
   rw[hf1]
   exact List.mem_append_left _ hf2
  ·intro i hi
   have hi2:i<(m.fields++ [(⟨nm,m1.b.length,Mk.fslot m1 nm,0,[]⟩:Kn)]).length:=by rw[←hf1];exact hi
   have hget:(Mk.named m1 m.fields (Mk.tf m1) nm).fields[i]'hi=(m.fields++ [(⟨nm,m1.b.length,Mk.fslot m1 nm,0,[]⟩:Kn)])[i]'hi2:=by
    show(m1.fields++ [_])[i]'_=_
    simp only[hf1]
   rw[hget]
   by_cases hlt:i<m.fields.length
   ·rw[List.getElem_append_left hlt]
    have F:=fld2 i hlt
    exact
     {sh:=hst _ _ F.sh
      w0:=by rw[hwd _ _ _ F.sh (by first|decide|(dsimp only;decide)) (fun h=>absurd h.1 (by first|decide|(dsimp only;decide)))];exact F.w0
      slot:=F.slot
      fol:=by
       rw[hwd _ _ _ F.sh (by first|decide|(dsimp only;decide)) (fun h=>absurd h.1 (by first|decide|(dsimp only;decide)))]
       refine Fol.cong _ _ F.fol (fun x hx=>?_)
       obtain⟨d,hd,_,e⟩:=mem_byN hx
       obtain⟨j,h2,_⟩:=h.dat_lt hd
       rw[←e]
       exact hwd _ _ _ (H.stp.shp _ _ h2) (by first|decide|(dsimp only;decide)) (fun h=>absurd h.1 (by first|decide|(dsimp only;decide)))}
   ·have hie:i=m.fields.length:=by rw[List.length_append,List.length_singleton]at hi2;omega
    subst hie
    rw[List.getElem_append_right (yR _)]
    simp only[Nat.sub_self,List.getElem_singleton]
    exact
     {sh:=by rw[q3];exact hnew
      w0:=by
       show wd o3 m1.b.length 0=_
       rw[hwn,←sum_C hC1];rfl
      slot:=by
       show Mk.fslot m1 nm=Mk.fslot m nm
       exact fslot_C hC1 nm
      fol:=by
       show Fol _ (wd o3 m1.b.length 2) (byN m.datas nm)
       rw[hnodata,hwn];rfl}
  ·refine⟨m.fields.length,?_,?_,?_⟩
   ·show _<(m1.fields++ [_]).length
    rw[hf1,List.length_append,List.length_singleton];omega
   ·show((m1.fields++ [_])[m.fields.length]'_).text=nm
    simp[hf1]
   ·show((m1.fields++ [_])[m.fields.length]'_).at_=m1.b.length
    simp[hf1]
  ·intro x q hq
   rw[q3,q1]at hq
   by_cases e:x=m1.b.length
   ·refine .inr (.inl ⟨⟨nm,m1.b.length,Mk.fslot m1 nm,0,[]⟩,?_,e.symm⟩)
    show _∈m1.fields++ [_]
    exact List.mem_append_right _ (List.mem_singleton.2 rfl)
   ·rw[if_neg e]at hq
    exact(H.old x q hq).imp id .inr
theorem hold_new (h:Hold m os hs mi es)(I:Inv m){s nm:List Int}(hs':AllB s)(hsl:s.length≤400)(hn:AllB nm)(hnl:nm.length≤64)(hnm:nameL s=nm)(hfresh: ∀d∈m.datas,d.text≠s)(hb:m.b.length≤1000000):
 ∃os',Hold (Mk.dataNew m nm s) os' hs mi es:=by
 obtain⟨o3,F⟩:=full_new h I hs' hsl hn hnl hnm hb
 have hsz:=h.rep.size
 unfold Mk.dataNew
 generalize hm3:(Mk.fieldOf (Mk.put1 m s) nm).2=m3 at*
 generalize hkk:(Mk.fieldOf (Mk.put1 m s) nm).1=k at*
 obtain⟨i,hi,ht,hk⟩:=F.k
 have G:=F.fld i hi
 have hks:=G.sh
 rw[hk]at hks
 have hLk:m.b.length≠k:=k_ne F.new hks (by first|decide|(dsimp only;decide))
 have e1:=repo_rd F.rep hks (j:=2) (by first|decide|(dsimp only;decide))
 have e2:k+16+8*2=k+32:=by omega
 rw[e2]at e1
 have r1:=F.rep.put F.new (j:=2) (x:=m.b.length+32) (by first|decide|(dsimp only;decide)) (by omega) (wd_bd F.rep (a:=k) (j:=2))
 have q1:=fun x=>shp_set o3 m.b.length 2 x (wd o3 k 2)
 have w1:=wd_set F.new (j:=2) (by first|decide|(dsimp only;decide)) (wd o3 k 2)
 generalize ho1:upd 272 o3 m.b.length (O.setW 2 (wd o3 k 2))=o4 at*
 have hks4:shp o4 k=some ⟨2,3,m3.fields[i].text,(2,i)⟩:=by rw[q1];exact hks
 have r2:=r1.put hks4 (j:=2) (x:=k+32) (by first|decide|(dsimp only;decide)) (by omega) (v:=(m.b.length:Int)) (by omega)
 have q2:=fun x=>shp_set o4 k 2 x (m.b.length:Int)
 have w2:=wd_set hks4 (j:=2) (by first|decide|(dsimp only;decide)) (m.b.length:Int)
 generalize ho2:upd 272 o4 k (O.setW 2 (m.b.length:Int))=o5 at*
 have hq: ∀x,shp o5 x=shp o3 x:=fun x=>by rw[q2,q1]
 have hw: ∀x j,wd o5 x j=if x=k∧j=2 then(m.b.length:Int)else if x=m.b.length∧j=2 then wd o3 k 2 else wd o3 x j:=fun x j=>by rw[w2,w1]
 have st:Stp o3 o5 (fun x j=>j=2∧(x=k∨x=m.b.length)):=⟨fun x q hx=>by rw[hq];exact hx,fun x j q _ hj=>by rw[hw,if_neg (fun h=>hj ⟨h.2,.inl h.1⟩),if_neg (fun h=>hj ⟨h.2,.inr h.1⟩)]⟩
 have hdl: ∀d∈m.datas,d.at_<m.b.length:=fun d hd=>by obtain⟨j,_,h2⟩:=h.dat_lt hd;omega
 obtain⟨g4,hg4⟩:=h.td.sh
 obtain⟨g5,hg5⟩:=h.tf.sh
 have hol: ∀x q,shp os x=some q→shp o5 x=some q:=fun x q hx=>by rw[hq];exact F.stp.shp _ _ hx
 refine⟨o5,
  {rep:=?_,td:=?_,tf:=?_,dat:=?_,fld:=?_,asc:=?_,ascF:=F.asc,ownF:=?_,dtx:=?_,ftx:=F.ftx,none:=?_,mn:=?_
   ent:=fun j hj=>hol _ _ (h.ent j hj),cov:=?_}⟩
 ·show RepO (put8 (put8 m3.b (m.b.length+32) (u8 m3.b (k+32))) (k+32) m.b.length) o5
  rw[e1]
  exact r2
 ·show TabW o5 272 4 m3.C.ds m3.datas
  rw[F.C]
  refine F.td.stp st (fun j hj=>?_) (fun d hd=>⟨?_,fun h=>absurd h.1 (by decide)⟩)
  ·rcases hj.2 with h1|h1
   ·exact k_ne (F.stp.shp _ _ hg4) hks (by first|decide|(dsimp only;decide)) h1
   ·have:=shp_lt hg4;omega
  ·rw[F.datas]at hd
   rcases List.mem_append.1 hd with hd|hd
   ·obtain⟨j,h2,_⟩:=h.dat_lt hd
    exact⟨_,F.stp.shp _ _ h2⟩
   ·rw[List.mem_singleton]at hd
    subst hd
    exact⟨_,F.new⟩
 ·show TabW o5 (288+16*m3.C.ds) 5 m3.C.fs m3.fields
  rw[F.C]
  refine F.tf.stp st (fun j hj=>?_) (fun d hd=>⟨?_,fun h=>absurd h.1 (by decide)⟩)
  ·rcases hj.2 with h1|h1
   ·exact k_ne (F.stp.shp _ _ hg5) hks (by first|decide|(dsimp only;decide)) h1
   ·exact k_ne (F.stp.shp _ _ hg5) F.new (by first|decide|(dsimp only;decide)) h1
  ·obtain⟨j,hj,e⟩:=List.mem_iff_getElem.1 hd
   exact⟨_,e▸(F.fld j hj).sh⟩
 ·intro i hi
  have hC3:(Mk.put2 m3 m.b.length k).C=m.C:=F.C
  have hi2:i<(m.datas++ [(⟨s,m.b.length,Mk.dslot m s,0,[]⟩:Kn)]).length:=by rw[←F.datas];exact hi
  have hget:(Mk.put2 m3 m.b.length k).datas[i]'hi=(m.datas++ [(⟨s,m.b.length,Mk.dslot m s,0,[]⟩:Kn)])[i]'hi2:=by
   show m3.datas[i]'_=_
   simp only[F.datas]
  rw[hget]
  by_cases hlt:i<m.datas.length
  ·rw[List.getElem_append_left hlt]
   have G2:=h.dat i hlt
   have hne: ∀q,shp os m.datas[i].at_=some q→m.datas[i].at_≠272∧m.datas[i].at_≠288+16*m.C.ds:=fun q hq=>⟨k_ne G2.sh hg4 (by first|decide|(dsimp only;decide)),k_ne G2.sh hg5 (by first|decide|(dsimp only;decide))⟩
   have p3:DatW m o3 i m.datas[i] (hs i):=G2.stp rfl F.stp (fun j hj1 hj2 hS=>by
    rcases hS with h1|h1|⟨h1,_⟩
    ·exact(hne _ G2.sh).1 h1
    ·exact(hne _ G2.sh).2 h1
    ·exact hj1 h1) (fun x j k2 n hx hS=>by
    rcases hS with h1|h1|⟨h1,⟨d,hd,h2⟩|⟨d,hd,h2⟩⟩
    ·exact k_ne hx hg4 (by first|decide|(dsimp only;decide)) h1
    ·exact k_ne hx hg5 (by first|decide|(dsimp only;decide)) h1
    ·obtain⟨j2,h3,_⟩:=h.dat_lt hd
     exact k_ne h3 hx (by first|decide|(dsimp only;decide)) h2
    ·obtain⟨j2,h3,_⟩:=h.fld_lt hd
     exact k_ne h3 hx (by first|decide|(dsimp only;decide)) h2)
   exact p3.stp hC3 st (fun j _ hj2 hS=>hj2 hS.1) (fun x j k2 n hx hS=>by
    rcases hS.2 with h1|h1
    ·exact k_ne hx hks (by first|decide|(dsimp only;decide)) h1
    ·exact k_ne hx F.new (by first|decide|(dsimp only;decide)) h1)
  ·have hie:i=m.datas.length:=by rw[List.length_append,List.length_singleton]at hi2;omega
   subst hie
   rw[List.getElem_append_right (yR _)]
   simp only[Nat.sub_self,List.getElem_singleton]
   have hw5: ∀j,j≠2→wd o5 m.b.length j=wd o3 m.b.length j:=fun j hj=>st.wd _ _ _ F.new (fun h=>hj h.1)
   have hh:=h.none m.datas.length (yR _)
   exact
    {sh:=by rw[hq];exact F.new
     w0:=by
      show wd o5 m.b.length 0=_
      rw[hw5 0 (by decide),F.w0]
      exact(sum_C F.C s).symm
     w3:=by
      show wd o5 m.b.length 3=_
      rw[hw5 3 (by decide),F.w 3 (by decide),hh];rfl
     w4:=by
      show wd o5 m.b.length 4=_
      rw[hw5 4 (by decide),F.w 4 (by decide)];rfl
     w5:=by
      show wd o5 m.b.length 5=_
      rw[hw5 5 (by decide),F.w 5 (by decide)];rfl
     cnt:=by rw[hh];rfl
     slot:=(dslot_C F.C s).symm
     arr:=by rw[hh];exact ArrW.nil _ _}
 ·intro i2 hi2
  have hi3:i2<m3.fields.length:=hi2
  have hgf:(Mk.put2 m3 m.b.length k).fields[i2]'hi2=m3.fields[i2]:=rfl
  rw[hgf]
  have G2:=F.fld i2 hi3
  have hne2: ∀d∈m.datas,wd o5 d.at_ 2=wd o3 d.at_ 2:=fun d hd=>by
   obtain⟨j,h2,_⟩:=h.dat_lt hd
   have h3:=F.stp.shp _ _ h2
   rw[hw,if_neg (fun h4=>k_ne h3 hks (by first|decide|(dsimp only;decide)) h4.1),if_neg (fun h4=>by have:=hdl d hd;omega)]
  have hfL:m3.fields[i2].at_≠m.b.length:=k_ne G2.sh F.new (by first|decide|(dsimp only;decide))
  have hdat:(Mk.put2 m3 m.b.length k).datas=m.datas++ [⟨s,m.b.length,Mk.dslot m s,0,[]⟩]:=F.datas
  rw[hdat]
  by_cases hie:i2=i
  ·subst hie
   exact
    {sh:=by rw[hq];exact G2.sh
     w0:=by
      rw[hw,if_neg (fun h4=>absurd h4.2 (by decide)),if_neg (fun h4=>absurd h4.2 (by decide)),G2.w0]
      exact(sum_C F.C _).symm
     slot:=G2.slot.trans (fslot_C F.C _).symm
     fol:=by
      rw[byN_snoc,if_pos (hnm.trans ht.symm),hw,hk,if_pos ⟨rfl,rfl⟩]
      refine⟨rfl,?_⟩
      show Fol (fun x=>wd o5 x 2) (wd o5 m.b.length 2) _
      rw[hw,if_neg (fun h4=>hLk h4.1),if_pos ⟨rfl,rfl⟩]
      have h5:=G2.fol
      rw[hk]at h5
      refine Fol.cong _ _ h5 (fun x hx=>?_)
      obtain⟨d,hd,_,e⟩:=mem_byN hx
      rw[←e]
      exact hne2 d hd}
  ·have hfk:m3.fields[i2].at_≠k:=fun e=>by
    have h5:=G2.sh
    rw[e,hks]at h5
    injection h5 with h5
    injection h5 with _ _ _ h5
    injection h5 with _ h5
    exact hie h5.symm
   have hft:nm≠m3.fields[i2].text:=fun e=>by
    have h5:=List.pairwise_iff_getElem.1 F.ftx
    rcases Nat.lt_or_ge i2 i with h6|h6
    ·have h7:=h5 i2 i (by simpa using hi3) (by simpa using hi) h6
     rw[List.getElem_map,List.getElem_map,ht]at h7
     exact h7 e.symm
    ·have h7:=h5 i i2 (by simpa using hi) (by simpa using hi3) (by omega)
     rw[List.getElem_map,List.getElem_map,ht]at h7
     exact h7 e
   exact
    {sh:=by rw[hq];exact G2.sh
     w0:=by
      rw[hw,if_neg (fun h4=>absurd h4.2 (by decide)),if_neg (fun h4=>absurd h4.2 (by decide)),G2.w0]
      exact(sum_C F.C _).symm
     slot:=G2.slot.trans (fslot_C F.C _).symm
     fol:=by
      rw[byN_snoc,if_neg (fun e=>hft (hnm.symm.trans e)),hw,if_neg (fun h4=>hfk h4.1),if_neg (fun h4=>hfL h4.1)]
      refine Fol.cong _ _ G2.fol (fun x hx=>?_)
      obtain⟨d,hd,_,e⟩:=mem_byN hx
      rw[←e]
      exact hne2 d hd}
 ·show Asc m3.datas
  rw[F.datas]
  exact asc_snoc h.asc hdl
 ·intro d hd
  have hd2:d∈m.datas++ [(⟨s,m.b.length,Mk.dslot m s,0,[]⟩:Kn)]:=by rw[←F.datas];exact hd
  rcases List.mem_append.1 hd2 with h1|h1
  ·obtain⟨f,h2,h3⟩:=h.ownF d h1
   exact⟨f,F.sub f h2,h3⟩
  ·rw[List.mem_singleton]at h1
   subst h1
   exact⟨m3.fields[i],List.getElem_mem hi,ht.trans hnm.symm⟩
 ·show(m3.datas.map Kn.text).Nodup
  rw[F.datas,List.map_append,List.nodup_append]
  refine⟨h.dtx,by simp,fun a ha b hb2=>?_⟩
  obtain⟨f,hf2,rfl⟩:=List.mem_map.1 ha
  simp at hb2
  subst hb2
  exact hfresh f hf2
 ·intro i2 hi2
  have e3:(Mk.put2 m3 m.b.length k).datas.length=m.datas.length+1:=by
   show m3.datas.length=_
   rw[F.datas,List.length_append,List.length_singleton]
  exact h.none i2 (by omega)
 ·show ArrW o5 0 m3.main mi
  rw[F.main]
  refine(h.mn.stp F.stp (fun x j k2 n hx hS=>?_)).stp st (fun x j k2 n hx hS=>?_)
  ·rcases hS with h1|h1|⟨h1,⟨d,hd,h2⟩|⟨d,hd,h2⟩⟩
   ·exact k_ne hx hg4 (by first|decide|(dsimp only;decide)) h1
   ·exact k_ne hx hg5 (by first|decide|(dsimp only;decide)) h1
   ·obtain⟨j2,h3,_⟩:=h.dat_lt hd
    exact k_ne h3 hx (by first|decide|(dsimp only;decide)) h2
   ·obtain⟨j2,h3,_⟩:=h.fld_lt hd
    exact k_ne h3 hx (by first|decide|(dsimp only;decide)) h2
  ·rcases hS.2 with h1|h1
   ·exact k_ne hx hks (by first|decide|(dsimp only;decide)) h1
   ·exact k_ne hx F.new (by first|decide|(dsimp only;decide)) h1
 ·intro x q hx
  rw[hq]at hx
  show x=272∨x=288+16*m3.C.ds∨(∃d∈m3.datas,d.at_=x)∨(∃f∈m3.fields,f.at_=x)∨_
  rw[F.C,F.datas]
  rcases F.old x q hx with h1|⟨f,hf,h1⟩|h1
  ·exact .inr (.inr (.inl ⟨_,List.mem_append_right _ (List.mem_singleton.2 rfl),h1.symm⟩))
  ·exact .inr (.inr (.inr (.inl ⟨f,hf,h1⟩)))
  ·rcases h.cov x q h1 with h1|h1|⟨d,hd,h1⟩|⟨d,hd,h1⟩|h1
   ·exact .inl h1
   ·exact .inr (.inl h1)
   ·exact .inr (.inr (.inl ⟨d,List.mem_append_left _ hd,h1⟩))
   ·exact .inr (.inr (.inr (.inl ⟨d,F.sub d hd,h1⟩)))
   ·exact .inr (.inr (.inr (.inr h1)))
end Ze
end Go.Proofs.YtiddkgcafpaekaaGreat
