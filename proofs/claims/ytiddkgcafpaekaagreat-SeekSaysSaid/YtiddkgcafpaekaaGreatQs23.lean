/-
  Texts beneath the proof.
-/
import Derived.Test.YtiddkgcafpaekaaGreatQs22
set_option linter.unusedVariables false
set_option linter.unusedSimpArgs false
set_option maxRecDepth 100000
open Go.ChangeShapes Go.WideShapes Go.ChangeAt Go.RowKit
namespace Go.Proofs.YtiddkgcafpaekaaGreat
namespace Ns
open Bytes8 Blk8 Own8 OwnE LeA Ob Ga Ma Kf Mb Mc Mf Mg Fa Fb Yd Na Nb Nc Nd Nh Nl Pr8
def Free (i:Nat):Prop:=i=7∨i=8∨i=15∨i=16∨i=18∨i=19
structure HG (m:Mk):Prop where
 n0:m.h.N 0=272
 n3:m.h.N 3=16*(m.C.ds:Int)
 n5:m.h.N 5=16*(m.C.fs:Int)
 cp:m.h.cp=2
 ic:m.h.ic=0∨m.h.ic=4
 I: ∀i,0≤m.h.I i∧m.h.I i<256
 nb: ∀i,i=1∨i=6∨(9≤i∧i≤14)∨i=17∨20≤i→0≤m.h.N i∧m.h.N i≤18446744073709551615
 ta:0≤m.h.ta∧m.h.ta≤4294967295
 ti:0≤m.h.ti∧m.h.ti≤4294967295
 te:0≤m.h.te∧m.h.te≤18446744073709551615
theorem HG.turn {m m':Mk}(h:HG m)(hC:m'.C=m.C)(hcp:m'.h.cp=m.h.cp)(hic:m'.h.ic=m.h.ic)(hI:m'.h.I=m.h.I)(hta:m'.h.ta=m.h.ta)(hti:m'.h.ti=m.h.ti)(hte:m'.h.te=m.h.te)
 (hN: ∀i,¬Free i→i≠6→m'.h.N i=m.h.N i)(h6:0≤m'.h.N 6∧m'.h.N 6≤18446744073709551615):HG m':=
 {n0:=by rw[hN 0 (by unfold Free;omega) (by decide)];exact h.n0
  n3:=by rw[hN 3 (by unfold Free;omega) (by decide),hC];exact h.n3
  n5:=by rw[hN 5 (by unfold Free;omega) (by decide),hC];exact h.n5
  cp:=hcp.trans h.cp
  ic:=by rw[hic];exact h.ic
  I:=by rw[hI];exact h.I
  nb:=fun i hi=>by
   by_cases e:i=6
   ·rw[e];exact h6
   ·rw[hN i (by unfold Free;omega) e];exact h.nb i hi
  ta:=by rw[hta];exact h.ta
  ti:=by rw[hti];exact h.ti
  te:=by rw[hte];exact h.te}
theorem HG.bytes {m m':Mk}(h:HG m)(hC:m'.C=m.C)(hh:m'.h=m.h):HG m':=
 h.turn hC (by rw[hh]) (by rw[hh]) (by rw[hh]) (by rw[hh]) (by rw[hh]) (by rw[hh]) (fun i _ _=>by rw[hh]) (by rw[hh];exact h.nb 6 (by omega))
theorem hg_object {m:Mk}(h:HG m)(l:List Int)(hl:m.b.length≤10000000):HG (m.object l):=
 h.turn rfl rfl rfl rfl rfl rfl rfl (fun i hf h6=>by
  show(setN (setN m.h 6 _) 7 _).N i=_
  rw[setN_ne _ _ _ _ (by intro e;exact hf (by unfold Free;omega)),setN_ne _ _ _ _ h6]) (by
  show 0≤(setN (setN m.h 6 _) 7 _).N 6∧(setN (setN m.h 6 _) 7 _).N 6≤_
  rw[setN_ne _ _ _ _ (by decide),setN_same]
  omega)
theorem hg_setN {m:Mk}(h:HG m)(i:Nat)(v:Int)(hi:Free i):HG {m with h:=setN m.h i v}:=
 h.turn rfl rfl rfl rfl rfl rfl rfl (fun j hf h6=>setN_ne _ _ _ _ (fun e=>hf (e▸hi))) (by
  show 0≤(setN m.h i v).N 6∧(setN m.h i v).N 6≤_
  rw[setN_ne _ _ _ _ (by intro e;unfold Free at hi;omega)]
  exact h.nb 6 (by omega))
theorem hg_put1 {m:Mk}(h:HG m)(s:List Int)(hl:m.b.length≤10000000):HG (Mk.put1 m s):=
 HG.bytes (m:={m.object (Mk.dobj m s)with h:=setN (setN (m.object (Mk.dobj m s)).h 19 (max (m.h.N 19) (inSlot m.datas (Mk.dslot m s):Nat))) 15 (m.h.N 15+1)}) (hg_setN (hg_setN (hg_object h _ hl) 19 _ (by unfold Free;omega)) 15 _ (by unfold Free;omega)) rfl rfl
theorem hg_named {m:Mk}(h:HG m)(ks:List Kn)(tf:Nat)(s:List Int)(hl:m.b.length≤10000000):HG (Mk.named m ks tf s):=
 HG.bytes (m:={m.object (Mk.fobj m s)with h:=setN (m.object (Mk.fobj m s)).h 16 (m.h.N 16+1)}) (hg_setN (hg_object h _ hl) 16 _ (by unfold Free;omega)) rfl rfl
theorem hg_fieldOf {m:Mk}(h:HG m)(s:List Int)(hl:m.b.length≤10000000):HG (Mk.fieldOf m s).2:=by
 unfold Mk.fieldOf
 split
 ·exact h
 ·exact hg_named h _ _ _ hl
theorem eobj_len (m:Mk)(who:List Nat)(ps:List (List Int))(s r mo:Int)(K:Nat→Int):(Mk.eobj m who ps s r mo K).length=16+(48+16*who.length):=by
 unfold Mk.eobj
 rw[objB_len,entB_len]
 unfold padN
 omega
theorem hg_dataNew {m:Mk}(h:HG m)(I:Inv m)(nm s:List Int)(hs:AllB s)(hsl:s.length≤400)(hl:m.b.length≤9000000):HG (Mk.dataNew m nm s):=by
 have l1:=put1_len I s
 obtain⟨d1,d2,d3⟩:=dobj_len m s
 exact HG.bytes (m:=(Mk.fieldOf (Mk.put1 m s) nm).2) (hg_fieldOf (hg_put1 h s (by omega)) nm (by omega)) rfl rfl
theorem hg_dataOf {m:Mk}(h:HG m)(I:Inv m)(nm s:List Int)(hs:AllB s)(hsl:s.length≤400)(hl:m.b.length≤9000000):HG (Mk.dataOf m nm s).2:=by
 unfold Mk.dataOf
 split
 ·exact h
 ·exact hg_dataNew h I nm s hs hsl hl
theorem hg_dataAll {m:Mk}(h:HG m)(I:Inv m)(l:List PR)(hl: ∀q∈l,AllB q.1∧AllB q.2∧q.1.length≤64∧q.2.length≤256)(h16:l.length≤16)(hb:m.b.length≤1000000): ∀k,k≤l.length→HG (Mk.dataAll m (l.take k)).1
 |0,_=>h
 |k+1,hk=>by
  obtain⟨h1,h2,h3,h4,h5⟩:=inv_dataAll I l hl k (by omega)
  obtain⟨q1,q2,q3,q4⟩:=hl l[k] (List.getElem_mem _)
  have hp:(pay l[k].1 l[k].2).length≤400:=by rw[Nee.pay_len];omega
  rw[dataAll_step m l k (by omega)]
  exact hg_dataOf (hg_dataAll h I l hl h16 hb k (by omega)) h1 _ _ (pay_all q1 q2) hp (by omega)
theorem hg_link {m:Mk}(h:HG m)(arr:List Nat)(n fr item:Nat)(hl:m.b.length≤10000000):HG (Mk.link m arr n fr item).1:=by
 unfold Mk.link
 split
 ·exact HG.bytes (m:={m.object (aobj arr.length)with h:=setN (m.object (aobj arr.length)).h 18 (m.h.N 18+1)}) (hg_setN (hg_object h _ hl) 18 _ (by unfold Free;omega)) rfl rfl
 ·exact h.bytes rfl rfl
theorem chain_bds {L:Nat}{arr:List Nat}{n:Nat}(h:Chain L arr n):arr.getD 0 0≤L∧arr.getLastD 0≤L:=by
 by_cases he:arr=[]
 ·subst he
  exact⟨Nat.zero_le _,Nat.zero_le _⟩
 ·have hp:=List.length_pos_iff.2 he
  have h1:=h.fits 0 hp
  have h2:=chain_last h he
  rw[List.getD_eq_getElem?_getD,List.getElem?_eq_getElem hp]
  exact⟨by show arr[0]≤L;omega,by omega⟩
theorem hg_linked {m:Mk}(h:HG m)(I:Inv m)(item n:Nat)(hc:Chain m.b.length m.main n)(hl:m.b.length≤1000000)(h176:184≤m.b.length):HG (Mk.linked m item n):=by
 obtain⟨k1,k2,k3,k4,k5,k6,k7,k8,k9,k10,k11,k12⟩:=inv_link I (fr:=176) item hc (by omega)
 obtain⟨c1,c2⟩:=chain_bds k2
 have hL:=hg_link h m.main n 176 item (by omega)
 exact
  {n0:=hL.n0,n3:=hL.n3,n5:=hL.n5,cp:=hL.cp,ic:=hL.ic,I:=hL.I,te:=hL.te
   nb:=fun i hi=>by
    show 0≤(setN (Mk.link m m.main n 176 item).1.h 11 _).N i∧(setN (Mk.link m m.main n 176 item).1.h 11 _).N i≤_
    by_cases e:i=11
    ·subst e
     rw[setN_same]
     omega
    ·rw[setN_ne _ _ _ _ e]
     exact hL.nb i hi
   ta:=by
    show 0≤(((Mk.link m m.main n 176 item).2.1.getLastD 0:Nat):Int)∧(((Mk.link m m.main n 176 item).2.1.getLastD 0:Nat):Int)≤_
    omega
   ti:=by
    show 0≤(((Mk.link m m.main n 176 item).2.2:Nat):Int)∧(((Mk.link m m.main n 176 item).2.2:Nat):Int)≤_
    omega}
theorem hg_mark {m:Mk}(h:HG m)(e j:Nat)(hl:m.b.length≤10000000):HG (Mk.mark e m j):=by
 rw[mark_is]
 refine HG.bytes (m:=(Mk.hitched e m j).1) ?_ rfl rfl
 unfold Mk.hitched
 split
 ·exact h.bytes rfl rfl
 ·exact hg_link h _ _ _ _ hl
theorem hg_markAll {L0:Nat}{m:Mk}(g:HG m)(h:InvM L0 0 m)(e:Nat)(who:List Nat)(hw: ∀x∈who,x<m.datas.length)(h16:who.length≤16)(hl:m.b.length≤1000000): ∀i,i≤who.length→HG (Mk.markAll e m (who.take i))
 |0,_=>by rw[show Mk.markAll e m (who.take 0)=m by rw[List.take_zero];rfl];exact g
 |i+1,hi=>by
  obtain⟨h1,h2,h3,h4,h5,h6,h7⟩:=inv_markAll h e who hw h16 i (by omega)
  rw[markAll_step e m who i (by omega)]
  exact hg_mark (hg_markAll g h e who hw h16 hl i (by omega)) e _ (by omega)
theorem told_N (m:Mk)(n:Nat)(seq real mono:Int)(boot:Nat→Int)(te:Nat)(i:Nat)(h8:i≠8):(Mk.told m n seq real mono boot te).h.N i=if i=14 then mono else if i=13 then real else if i=9 then seq else if n=0∧i=12 then real else if n=0∧i=10 then seq else m.h.N i:=by
 unfold Mk.told setN
 dsimp only
 by_cases h14:i=14
 ·simp[h14]
 rw[if_neg h14,if_neg h14]
 by_cases h13:i=13
 ·simp[h13]
 rw[if_neg h13,if_neg h13]
 by_cases h9:i=9
 ·simp[h9]
 rw[if_neg h9,if_neg h9,if_neg h8]
 by_cases hn:n=0
 ·simp[hn]
 ·simp[hn]
theorem hg_told {m:Mk}(h:HG m)(n:Nat)(seq real mono:Int)(K:Nat→Int)(te:Nat)(hs:0≤seq∧seq≤18446744073709551615)(hr:0≤real∧real≤18446744073709551615)(hm:0≤mono∧mono≤18446744073709551615)(hK:IdOk K)(ht:te≤10000000):HG (Mk.told m n seq real mono K te):=by
 have hst: ∀i,i≠8→i≠14→i≠13→i≠9→i≠12→i≠10→(Mk.told m n seq real mono K te).h.N i=m.h.N i:=fun i a b c d e f=>by
  rw[told_N _ _ _ _ _ _ _ _ a,if_neg b,if_neg c,if_neg d,if_neg (fun x=>e x.2),if_neg (fun x=>f x.2)]
 exact
  {n0:=(hst 0 (by decide) (by decide) (by decide) (by decide) (by decide) (by decide)).trans h.n0
   n3:=(hst 3 (by decide) (by decide) (by decide) (by decide) (by decide) (by decide)).trans h.n3
   n5:=(hst 5 (by decide) (by decide) (by decide) (by decide) (by decide) (by decide)).trans h.n5
   cp:=by
    have e:(Mk.told m n seq real mono K te).h.cp=m.h.cp:=by unfold Mk.told;dsimp only;split<;>rfl
    rw[e];exact h.cp
   ic:=by
    have e:(Mk.told m n seq real mono K te).h.ic=m.h.ic:=by unfold Mk.told;dsimp only;split<;>rfl
    rw[e];exact h.ic
   I:=fun i=>by
    have e:(Mk.told m n seq real mono K te).h.I i=if 32≤i∧i<48 then K (i-32)else m.h.I i:=by
     unfold Mk.told
     by_cases h0:n=0
     ·rw[if_pos h0];rfl
     ·rw[if_neg h0];rfl
    rw[e]
    split
    ·exact hK _
    ·exact h.I i
   nb:=fun i hi=>by
    rw[told_N _ _ _ _ _ _ _ _ (by omega)]
    repeat' split
    all_goals first|assumption|exact h.nb i hi
   ta:=by
    have e:(Mk.told m n seq real mono K te).h.ta=m.h.ta:=by unfold Mk.told;dsimp only;split<;>rfl
    rw[e];exact h.ta
   ti:=by
    have e:(Mk.told m n seq real mono K te).h.ti=m.h.ti:=by unfold Mk.told;dsimp only;split<;>rfl
    rw[e];exact h.ti
   te:=by
    show 0≤(te:Int)∧(te:Int)≤_
    omega}
theorem entered_good {m:Mk}(h:Inv m)(g:HG m)(L:List PR)(hl: ∀q∈L,AllB q.1∧AllB q.2∧q.1.length≤64∧q.2.length≤256)(h16:L.length≤16)(hb:m.b.length≤32768)(real mono:Int)(K:Nat→Int)
 (hr:0≤real∧real≤18446744073709551615)(hm:0≤mono∧mono≤18446744073709551615)(hK:IdOk K)(h9:m.h.N 9≠18446744073709551615):
 Inv (Mk.entered m L real mono K)∧HG (Mk.entered m L real mono K)∧(Mk.entered m L real mono K).C=m.C∧(Mk.entered m L real mono K).b=(Mk.grown m L real mono K).b∧(Mk.entered m L real mono K).h.N 9=m.h.N 9+1:=by
 have n9:=g.nb 9 (by omega)
 obtain⟨i1,i2,i3,i4,i5⟩:=inv_dataAll h L hl L.length (yR _)
 have gd:=hg_dataAll g h L hl h16 (by omega) L.length (yR _)
 rw[List.take_length]at i1 i2 i3 i4 i5 gd
 unfold Mk.entered Mk.grown
 dsimp only
 generalize hmd:Mk.dataAll m L=s at*
 obtain⟨md,who⟩:=s
 dsimp only at*
 obtain⟨n8,hn8,hch8,hn8b⟩:=i1.mn
 have hel:(Mk.eobj md who (L.map fun q=>pay q.1 q.2) (m.h.N 9+1) real mono K).length%8=0∧0<(Mk.eobj md who (L.map fun q=>pay q.1 q.2) (m.h.N 9+1) real mono K).length∧(Mk.eobj md who (L.map fun q=>pay q.1 q.2) (m.h.N 9+1) real mono K).length≤400∧64≤(Mk.eobj md who (L.map fun q=>pay q.1 q.2) (m.h.N 9+1) real mono K).length:=by
  have e:=eobj_len md who (L.map fun q=>pay q.1 q.2) (m.h.N 9+1) real mono K
  omega
 generalize Mk.eobj md who (L.map fun q=>pay q.1 q.2) (m.h.N 9+1) real mono K=eo at*
 obtain⟨e1,e2,e3,e4⟩:=hel
 have I2:=inv_object i1 eo e1 e2
 have G2:=hg_object gd eo (by omega)
 have hol:=object_len md eo
 have hC2:Chain (md.object eo).b.length (md.object eo).main n8:=hch8.mono (by omega)
 have hn2:(md.object eo).h.N 8=(n8:Int):=hn8
 have h304:=i1.len
 have e8:(m.h.N 8).toNat=n8:=by rw[←i5.n8,hn8];rfl
 rw[e8]
 obtain⟨g1,g2,g3,g4,g5,g6,g7⟩:=inv_linked I2 md.b.length n8 hn2 hC2 (by omega) (by omega)
 have G3:=hg_linked G2 I2 md.b.length n8 hC2 (by omega) (by omega)
 generalize Mk.linked (md.object eo) md.b.length n8=mL at*
 have hM0:InvM md.b.length 0 mL:=⟨g1,fun k' hk'=>by rw[g4]at hk';exact(i1.dat k' hk').2.2.2.2,by omega⟩
 have hw: ∀y∈who,y<mL.datas.length:=fun y hy=>by rw[g4];exact i3 y hy
 obtain⟨k1,k2,k3,k4,k5,k6,k7⟩:=inv_markAll hM0 md.b.length who hw (by omega) who.length (yR _)
 have G4:=hg_markAll G3 hM0 md.b.length who hw (by omega) (by omega) who.length (yR _)
 rw[List.take_length]at k1 k2 k3 k4 k5 k6 k7 G4
 refine⟨inv_told k1.inv _ _ _ _ _ _,hg_told G4 _ _ _ _ _ _ (by omega) hr hm hK (by omega),?_,rfl,?_⟩
 ·show(Mk.markAll md.b.length mL who).C=m.C
  rw[k5,g5]
  exact i5.C
 ·rw[told_N _ _ _ _ _ _ _ _ (by decide)]
  simp
end Ns
namespace Zd
end Zd
namespace Ze
end Ze
end Go.Proofs.YtiddkgcafpaekaaGreat
