/-
  Texts beneath the proof.
-/
import Derived.Test.YtiddkgcafpaekaaGreatJq16
set_option linter.unusedVariables false
set_option linter.unusedSimpArgs false
set_option maxRecDepth 100000
set_option maxHeartbeats 4000000
open Go.ChangeShapes Go.WideShapes Go.ChangeAt Go.RowKit
namespace Go.Proofs.YtiddkgcafpaekaaGreat
namespace Mf
open Bytes8 Blk8 Own8 OwnA OwnE Od Ga Ma Kf Mb Mc Md Me Fa Fb Dc
def knC (k:Kn)(v:Value):List Value:=[.string (T k.text),.int .u64 (k.at_:Int),.int .i64 (k.slot:Int),.int .i64 (k.count:Int),v]
def kf (l:List (Kn×Value)):List Value:=l.flatMap fun p=>knC p.1 p.2
theorem kf_snoc (l:List (Kn×Value))(p:Kn×Value):kf (l++ [p])=kf l++knC p.1 p.2:=by simp[kf]
theorem kf_len (l:List (Kn×Value)):(kf l).length=l.length*5:=by
 induction l with
 |nil=>rfl
 |cons p l ih=>
  have:kf (p::l)=knC p.1 p.2++kf l:=by simp[kf]
  rw[this,List.length_append,ih]
  simp[knC]
  omega
theorem kf_get (l:List (Kn×Value)): ∀(i:Nat) (h:i<l.length) (j:Nat),j<5→(kf l)[i*5+j]? =(knC l[i].1 l[i].2)[j]? :=by
 induction l with
 |nil=>intro i h;cases h
 |cons p l ih=>
  intro i h j hj
  have e:kf (p::l)=knC p.1 p.2++kf l:=by simp[kf]
  have e5:(knC p.1 p.2).length=5:=rfl
  rw[e]
  cases i with
  |zero=>
   rw[List.getElem?_append_left (by rw[e5];omega)]
   simp
  |succ i=>
   rw[List.getElem?_append_right (by rw[e5];omega),e5,show(i+1)*5+j-5=i*5+j by omega]
   rw[ih i (by simpa using h) j hj]
   rfl
theorem knElt:Elt 197 166 5 64 (.agg #[.string {data:= #[]},.int .u64 0,.int .i64 0,.int .i64 0,.slice none 0 0]):=⟨Tryz.underlying166,by kernel_rfl,rfl,by decide⟩
abbrev OwnK (w:World)(B:Nat)(A:Option Addr)(n c:Nat)(l:List (Kn×Value)):Prop:=OwnE 197 5 w B A n c (kf l)
theorem ownK_len {w:World}{B n c:Nat}{A:Option Addr}{l:List (Kn×Value)}(h:OwnK w B A n c l):l.length=n:=by
 have:=h.len
 rw[kf_len]at this
 omega
theorem ownK_at {w:World}{B n c:Nat}{A:Option Addr}{l:List (Kn×Value)}(h:OwnK w B A n c l)(i:Nat)(hi:i<l.length): ∃b,A=some ⟨b,0,none⟩∧b<w.heap.size∧
 w.cell? ⟨b,i*5,none⟩=some (.string (T l[i].1.text))∧w.cell? ⟨b,i*5+1,none⟩=some (.int .u64 (l[i].1.at_:Int))∧w.cell? ⟨b,i*5+2,none⟩=some (.int .i64 (l[i].1.slot:Int))∧w.cell? ⟨b,i*5+3,none⟩=some (.int .i64 (l[i].1.count:Int))∧w.cell? ⟨b,i*5+4,none⟩=some l[i].2:=by
 have hl:=kf_len l
 obtain⟨b,rfl,_,hb,c0⟩:=OwnE.cell h (i:=i*5) (by omega)
 have cc: ∀j,j<5→w.cell? ⟨b,i*5+j,none⟩=(knC l[i].1 l[i].2)[j]? :=fun j hj=>by
  obtain⟨b2,e2,_,_,c1⟩:=OwnE.cell h (i:=i*5+j) (by omega)
  injection e2 with e2
  injection e2 with e2
  subst e2
  rw[c1,kf_get l i hi j hj]
 refine⟨b,rfl,hb,?_,cc 1 (by decide),cc 2 (by decide),cc 3 (by decide),cc 4 (by decide)⟩
 have:=cc 0 (by decide)
 rw[Nat.add_zero]at this
 exact this
theorem ownK_kns {w:World}{B n c:Nat}{A:Option Addr}{l:List (Kn×Value)}(h:OwnK w B A n c l):Kns w A (l.map Prod.fst):=fun i hi=>by
 rw[List.length_map]at hi
 obtain⟨b,e,hb,c0,c1,c2,c3,_⟩:=ownK_at h i hi
 refine⟨b,e,hb,?_⟩
 simp only[List.getElem_map]
 exact⟨c0,c1,c2,c3⟩
theorem OwnE.keptF {E:TypeId}{size:Nat}{F:Nat→Prop}{w w':World}{base n c:Nat}{A:Option Addr}{xs:List Value}(h:OwnE E size w base A n c xs)(hk:KeptF F w w')(hF: ∀g,ownB A=some g→ ¬F g):OwnE E size w' base A n c xs:=by
 refine⟨Nat.le_trans h.1 hk.size,h.2.1,?_⟩
 rcases h.2.2 with h1|⟨k,cap,cur,h1,h2,h3,h4⟩
 ·exact .inl h1
 ·refine .inr ⟨k,cap,cur,h1,h2,?_,h4⟩
  have hk2:k<w.heap.size:=by
   rcases Nat.lt_or_ge k w.heap.size with h|h
   ·exact h
   ·rw[Array.getElem?_eq_none h]at h3;cases h3
  injection h1 with e1 e2 e3
  subst e1
  rw[hk.block k hk2 (hF k rfl)];exact h3
theorem MkB.below {w w':World}{B g bb cb:Nat}{S:Sl}{m:Mk}(h:MkB w B g bb cb S m)(hb:Below w.heap.size w w'):MkB w' B g bb cb S m:=
 ⟨h.st.below hb h.st.lt,h.own.kept hb (yR _),h.ne⟩
theorem own_set1 {w:World}{B g bb n c:Nat}{l:List Int}(h:Own w B (some ⟨bb,0,none⟩) n c l)(hne:g≠bb)(i:Nat)(v:Value):Own (w.setCell ⟨g,i,none⟩ v) B (some ⟨bb,0,none⟩) n c l:=
 Kf.Own.keptF h (KeptF.set1 w g i v) (fun j hj e=>hne (by injection hj with hj;exact(e.symm.trans hj.symm)))
theorem MkB.depth {w:World}{B g bb cb:Nat}{S:Sl}{m:Mk}(h:MkB w B g bb cb S m)(v:Nat):MkB (w.setCell ⟨g,142,none⟩ (.int .u64 (v:Int))) B g bb cb S {m with depth:=v}:=
 ⟨by have:=h.st.set_ 142 (.int .u64 (v:Int));rw[Mk.set_depth]at this;exact this,own_set1 h.own h.ne _ _,h.ne⟩
theorem MkB.setN {w:World}{B g bb cb:Nat}{S:Sl}{m:Mk}(h:MkB w B g bb cb S m)(i k:Nat)(hi:i<20)(hk:k=119+i)(v:Int):MkB (w.setCell ⟨g,k,none⟩ (.int .u64 v)) B g bb cb S {m with h:=setN m.h i v}:=
 ⟨by have:=h.st.set_ k (.int .u64 v);rw[Mk.set_Nk _ _ i k hi hk]at this;exact this,own_set1 h.own h.ne _ _,h.ne⟩
theorem MkB.setF {w:World}{B g bb cb:Nat}{S:Sl}{m:Mk}(h:MkB w B g bb cb S m)(v:Value):MkB (w.setCell ⟨g,145,none⟩ v) B g bb cb {S with f:=v} m:=
 ⟨by have:=h.st.set_ 145 v;rw[Mk.set_f]at this;exact this,own_set1 h.own h.ne _ _,h.ne⟩
theorem MkB.grown {w w':World}{row:Option Nat}{B g bb cb:Nat}{S:Sl}{m:Mk}(h:MkB w B g bb cb S m)(hg:w.grownBy w' row)(h1:row≠some g)(h2:row≠some bb):MkB w' B g bb cb S m:=
 ⟨(hg.block g h.st.lt (fun e=>h1 e.symm)).trans h.st,own_kept h.own hg (fun j hj e=>h2 (by injection hj with hj;rw[e,←hj])),h.ne⟩
theorem MkB.same {w:World}{B g bb cb:Nat}{S:Sl}{m m':Mk}(h:MkB w B g bb cb S m)(h1:m.C=m'.C)(h2:m.h=m'.h)(h3:m.depth=m'.depth)(h4:m.b=m'.b):MkB w B g bb cb S m':=
 ⟨by rw[←Mk.cells_same h1 h2 h3,←h4];exact h.st,by rw[←h4];exact h.own,h.ne⟩
theorem max_if (a b:Nat):(if a<b then((b:Nat):Int)else(a:Int))=((max a b:Nat):Int):=by
 by_cases h:a<b
 ·rw[if_pos h,Nat.max_eq_right (by omega)]
 ·rw[if_neg h,Nat.max_eq_left (by omega)]
end Mf
namespace Mg
open Bytes8 Blk8 Own8 OwnA OwnE Ob Oj Ga Ma Kf Mb Mc Md Me Mf Fa Fb Fc Sg Dc
def look (l:List (Kn×Value))(s:List Int):Option (Kn×Value):=l.find? fun k=>k.1.text==s
theorem look_at {l:List (Kn×Value)}{s:List Int}{k:Nat}(hk:k<l.length)(h:l[k].1.text=s)(h0: ∀j (hj:j<l.length),j<k→l[j].1.text≠s):look l s=some l[k]:=by
 unfold look
 rw[List.find?_eq_some_iff_getElem]
 exact⟨by simp[h],k,hk,rfl,fun j hj=>by simpa using h0 j (by omega) hj⟩
theorem look_none {l:List (Kn×Value)}{s:List Int}(h0: ∀j (hj:j<l.length),l[j].1.text≠s):look l s=none:=by
 unfold look
 rw[List.find?_eq_none]
 intro x hx
 obtain⟨j,hj,rfl⟩:=List.mem_iff_getElem.1 hx
 simpa using h0 j hj
structure FieldIn (w:World)(B g bb cb:Nat)(S:Sl)(F:Option Addr)(nf cf:Nat)(l:List (Kn×Value))(m:Mk):Prop where
 st:MkB w B g bb cb S m
 sf:S.f= .slice F nf cf
 row:OwnK w B F nf cf l
 off: ∀k,ownB F=some k→k≠g∧k≠bb
 txt: ∀p∈l,AllB p.1.text
def Cf.file (C:Cf):List Int:=idL C.F
def Mk.sum (m:Mk)(s:List Int):Int:=ofS m.C.keyed (Cf.file m.C) s
def Mk.fslot (m:Mk)(s:List Int):Nat:=(Mk.sum m s%(m.C.fs:Int)).toNat
def Mk.fobj (m:Mk)(s:List Int):List Int:=objB 2 (nums [Mk.sum m s,0,0]++s)
def Mk.named (m:Mk)(ks:List Kn)(tf:Nat)(s:List Int):Mk:=
 {m.object (Mk.fobj m s)with
  b:=hung (m.b++Mk.fobj m s) ks tf m.b.length (Mk.fslot m s)
  depth:=max m.depth (inSlot ks (Mk.fslot m s))
  h:=setN (m.object (Mk.fobj m s)).h 16 (m.h.N 16+1)
  fields:=m.fields++ [⟨s,m.b.length,Mk.fslot m s,0,[]⟩]}
def FieldOld (l:List (Kn×Value))(s:List Int)(w:World)(e:Ending)(w':World):Prop:= ∃k,look l s=some k∧e= .returned (.int .u64 (k.1.at_:Int))∧w=w'
def FieldNew (B g bb nf tf:Nat)(S:Sl)(F:Option Addr)(l:List (Kn×Value))(m:Mk)(s:List Int)(w:World)(e:Ending)(w':World):Prop:=
 look l s=none∧e= .returned (.int .u64 (m.b.length:Nat))∧ ∃bb' cb' F' cf',FieldIn w' B g bb' cb' {S with f:= .slice F' (nf+1) cf'} F' (nf+1) cf' (l++ [(⟨s,m.b.length,Mk.fslot m s,0,[]⟩,.slice none 0 0)]) (Mk.named m (l.map Prod.fst) tf s)∧(bb'=bb∨w.heap.size≤bb')∧(ownB F'=ownB F∨ ∃k,ownB F'=some k∧w.heap.size≤k)∧KeptF (fun k=>k=g∨k=bb∨ownB F=some k) w w'
theorem ofS_bd (t:Bool)(key l:List Int):0≤ofS t key l∧ofS t key l≤18446744073709551615:=by
 unfold ofS
 split
 ·unfold Hm.sipS Hm.sipEnd
  exact Hm.b64 _ _ _
 ·unfold Hm.lookS
  split
  all_goals exact Hm.b64 _ _ _
attribute [local irreducible] Mk.cells wpList Code.wp
theorem field_any (B g bb cb nf cf tf:Nat)(S:Sl)(F:Option Addr)(l:List (Kn×Value))(m:Mk)(s:List Int)(w:World)(h:FieldIn w B g bb cb S F nf cf l m)(hs:AllB s)(hn:nf≤100000)(hF:IdOk m.C.F)(hsl:s.length≤700000)(hb0:0<m.b.length∧m.b.length≤1000000)(h7:0≤m.h.N 7∧m.h.N 7≤1000000)(hg:B≤g)(h16:0≤m.h.N 16∧m.h.N 16≤1000000)(hfs:0<m.C.fs∧m.C.fs≤64)(h4:m.h.N 4=(tf:Int))(htf:tf+16*m.C.fs≤m.b.length)(hat: ∀p∈l,p.1.at_+32≤m.b.length):
 Calls Tryz.prog 149 #[.pointer (some ⟨g,0,none⟩),.string (T s)] w fun e w'=>FieldOld l s w e w'∨FieldNew B g bb nf tf S F l m s w e w':=by
 obtain⟨hm,hsf,hrow,hoff,htx⟩:=h
 have HM:=yH hm
 have HR:=yH hrow
 have HL:=yH (ownK_len hrow)
 have c5:=hm.st.cell (Mk.get_f _ _)
 rw[show({S with b:=Value.slice (some ⟨bb,0,none⟩) m.b.length cb}:Sl).f= .slice F nf cf from hsf]at c5
 clear hm hrow
 have HF:=yH hoff
 clear hoff
 go_enter Tryz.func149,Tryz.ntmps149
 go_wp2
 go_loopw [5] (fun i wr=> ∃k:Nat,k≤nf∧i= .int .i64 (k:Int)∧Hid (∀j (hj:j<l.length),j<k→l[j].1.text≠s)∧wr=w) (fun i _=>nf-(intOf i).toNat)
 case atStart=>exact⟨0,Nat.zero_le _,rfl,yH fun _ _ h=>absurd h (Nat.not_lt_zero _),rfl⟩
 case round=>
  obtain⟨k,hkk,rfl,hno,rfl⟩:=hrel
  by_cases hlt:k<nf
  ·have hki:k<l.length:=by rw[HL.out];exact hlt
   obtain⟨b,rfl,hbl,d0,d1,d2,d3,d4⟩:=ownK_at HR.out k hki
   clear d2 d3 d4
   have HA:=yH (htx _ (List.getElem_mem hki))
   have HLo:=yH fun h:l[k].1.text=s=>look_at hki h hno.out
   have HNx:=yH fun(h:l[k].1.text≠s) j (hj:j<l.length) (hjk:j<k+1)=>show l[j].1.text≠s from by
    rcases Nat.lt_or_ge j k with h1|h1
    ·exact hno.out j hj h1
    ·have:j=k:=by omega
     subst this
     exact h
   generalize l[k]=q at*
   by_cases he:q.1.text=s
   ·have e1:((T q.1.text).toList==(T s).toList)=true:=by rw[T_beq HA.out hs];simp[he]
    have HQ:=yH (HLo.out he)
    clear he HNx HLo HA
    generalize T q.1.text=Q at*
    generalize T s=R at*
    go_wp2
    go_ret
    exact .inl ⟨q,HQ.out,rfl,rfl⟩
   ·have e1:((T q.1.text).toList==(T s).toList)=false:=by rw[T_beq HA.out hs];simp[he]
    have HQ:=yH (HNx.out he)
    clear he HNx HLo HA
    generalize T q.1.text=Q at*
    generalize T s=R at*
    go_wp2
    go_roundw
    case rel=>exact⟨k+1,by omega,by go_num,HQ,trivial⟩
    case measure=>simp[intOf];omega
  ·obtain rfl:k=nf:=by omega
   have HLo:=yH (look_none fun j hj=>hno.out j hj (by rw[←HL.out];exact hj))
   clear hno
   obtain⟨ns,hns⟩: ∃ns,s.length=ns:=⟨_,rfl⟩
   have HS:=yH hns
   clear hns
   have HO:=yH fun(W:World) (c:Nat) (h:Bytes W (some ⟨wr.heap.size,0,none⟩) s)=>rof_any m.C.keyed m.C.F _ s ns c W hF h HS.out (by rw[←HS.out];omega)
   go_upto_region 6 with fail
   have HB:=yH HM.out.st
   have pk:=HB.out.cell (Mk.get_keyed _ _)
   have pF:=Mk.file_range HB.out
   obtain⟨cv,mk,hmk⟩:=text_conv s hs
   have hcv:=fun w=>(hmk w).1
   simp only[HS.out]at hcv
   have HB1:=yH ((hmk wr.drew).2.1 wr.heap.size rfl)
   have HG1:=yH (((Below.refl wr.heap.size wr).drew).trans (hmk wr.drew).2.2.below)
   have HW1:=yH (HB.out.below HG1.out HB.out.lt)
   have qk:=HW1.out.cell (Mk.get_keyed _ _)
   have qF:=Mk.file_range HW1.out
   have HCV:=yH hmk
   clear hmk
   have idU:=Tryz.underlying37
   have idI:(Tryz.prog.info? 37).map (·.size)=some (fileV m.C).length:=by kernel_rfl
   refine wp_region_noPanic ?_
   refine wp_region_held_drew (S:=fun w':World=>w'.cell? ⟨g,51,none⟩=some (.bool m.C.keyed)∧w'.rangeAt g 0 (fileV m.C)) (by kernel_rfl) (by exact⟨pk,pF⟩) (fun hHeld=>?_)
   refine tk (i:=0) (oi:=⟨some 36,_,_,_,_,_⟩) (v:=?_) rfl (Or.inl ⟨by rfl,?_⟩) ?_
   rotate_left
   ·intro W hSw;go_simp;try (with_reducible rfl)
   try simp only[Act.put,sA,sZ,sS]
   refine tk (i:=1) (oi:=⟨some 37,_,_,_,_,_⟩) (v:=?_) rfl (Or.inl ⟨by rfl,?_⟩) ?_
   rotate_left
   ·intro W hSw;go_simp;try (with_reducible rfl)
   try simp only[Act.put,sA,sZ,sS]
   refine tk (i:=2) (oi:=⟨some 38,_,_,_,_,_⟩) (v:=?_) rfl (Or.inl ⟨by rfl,?_⟩) ?_
   rotate_left
   ·intro W hSw;go_simp;try (with_reducible rfl)
   try simp only[Act.put,sA,sZ,sS]
   refine tk (i:=3) (oi:=⟨some 39,_,_,_,_,_⟩) (v:=?_) rfl (Or.inl ⟨by rfl,?_⟩) ?_
   rotate_left
   ·intro W hSw;go_simp;try (with_reducible rfl)
   try simp only[Act.put,sA,sZ,sS]
   refine tk (i:=4) (oi:=⟨some 40,_,_,_,_,_⟩) (v:=?_) rfl (Or.inl ⟨by rfl,?_⟩) ?_
   rotate_left
   ·intro W hSw;have hSx:=hSw.1;go_simp;try (with_reducible rfl)
   try simp only[Act.put,sA,sZ,sS]
   refine tk (i:=5) (oi:=⟨some 41,_,_,_,_,_⟩) (v:=?_) rfl (Or.inl ⟨by rfl,?_⟩) ?_
   rotate_left
   ·intro W hSw;go_simp;try (with_reducible rfl)
   try simp only[Act.put,sA,sZ,sS]
   refine tk (i:=6) (oi:=⟨some 42,_,_,_,_,_⟩) (v:=?_) rfl (Or.inl ⟨by rfl,?_⟩) ?_
   rotate_left
   ·intro W hSw;go_simp;try (with_reducible rfl)
   try simp only[Act.put,sA,sZ,sS]
   refine tk (i:=7) (oi:=⟨some 43,_,_,_,_,_⟩) (v:=?_) rfl (Or.inl ⟨by rfl,?_⟩) ?_
   rotate_left
   ·intro W hSw;go_simp;try (with_reducible rfl)
   try simp only[Act.put,sA,sZ,sS]
   refine tk (i:=8) (oi:=⟨some 44,_,_,_,_,_⟩) (v:=?_) rfl (Or.inl ⟨by rfl,?_⟩) ?_
   rotate_left
   ·intro W hSw;go_simp;try (with_reducible rfl)
   try simp only[Act.put,sA,sZ,sS]
   refine tk (i:=9) (oi:=⟨some 45,_,_,_,_,_⟩) rfl (yieldsIf_load_mid (by rfl) _ _ rfl _ _ rfl _ _ (fun _ h=>h.2) idU rfl idI) ?_
   try simp only[Act.put,sA,sZ,sS]
   refine tk (i:=10) (oi:=⟨some 46,_,_,_,_,_⟩) (v:=?_) rfl (Or.inl ⟨by rfl,?_⟩) ?_
   rotate_left
   ·intro W hSw;go_simp;try (with_reducible rfl)
   try simp only[Act.put,sA,sZ,sS]
   refine wpAnyH_ready (rs:=[11]) (by kernel_rfl) (by simp) ?_
   refine AllReadyH.cons (o:=⟨some 47,_,_,_,_,_⟩) rfl (fun K hK=>?_) AllReadyH.nil
   go_simp
   skip
   try go_wp2_with fail
   refine hK.out _ _ (by exact⟨qk,qF⟩) (fun hHeld=>?_)
   clear hK K
   try simp only[Act.put,sA,sZ,sS]
   refine wpAnyH_ready (rs:=[12]) (by kernel_rfl) (by simp) ?_
   refine AllReadyH.cons (o:=⟨some 48,_,_,_,_,_⟩) rfl (fun K hK=>?_) AllReadyH.nil
   go_simp
   (refine(HO.out _ _ HB1.out).mono ?_);rintro e w2 ⟨rfl,hb2⟩;have HG2:=yH (HG1.out.trans (hb2.mono HG1.out.size));have HW2:=yH (HB.out.below HG2.out HB.out.lt);have rk:=HW2.out.cell (Mk.get_keyed _ _);have rF:=Mk.file_range HW2.out;clear hb2
   try go_wp2_with fail
   refine hK.out _ _ (by exact⟨rk,rF⟩) (fun hHeld=>?_)
   clear hK K
   try simp only[Act.put,sA,sZ,sS]
   refine tk (i:=13) (oi:=⟨some 6,_,_,_,_,_⟩) (v:=?_) rfl (Or.inl ⟨by rfl,?_⟩) ?_
   rotate_left
   ·intro W hSw;go_simp;try (with_reducible rfl)
   try simp only[Act.put,sA,sZ,sS]
   refine wpAnyH_done (by kernel_rfl) ?_ _
   refine NoPanic.normal ?_
   have HM2:=yH (MkB.below HM.out HG2.out)
   have HR2:=yH (OwnE.kept HR.out HG2.out (yR _))
   clear pk pF qk qF rk rF
   clear HO
   have hh0:=ofS_bd m.C.keyed (idL m.C.F) s
   generalize hhh:ofS m.C.keyed (idL m.C.F) s=hh at*
   have HH:=yH hhh
   clear hhh
   have HB3:=yH ((HCV.out w2).2.1 w2.heap.size rfl)
   have HG3:=yH (HCV.out w2).2.2.below
   have HPF:=yH fun(W:World) (A:Option Addr) (c:Nat) (h:Bytes W A s)=>rputField_any hh 0 0 A s ns c W h HS.out (by rw[←HS.out];omega) (three_I hh0 (by decide) (by decide))
   obtain⟨hf0,hf1⟩:=hfs
   have hfz: ¬(m.C.fs:Int)=0:=by omega
   have hpd:padN (24+ns)≤8:=by unfold padN;omega
   have hbig:m.b.length+(16+(24+ns)+padN (24+ns))≤4000000:=by have:=HS.out;have:=hb0.2;omega
   obtain⟨sl,hsl1,hsl2⟩: ∃sl:Nat,hh%(m.C.fs:Int)=(sl:Int)∧sl<m.C.fs:=⟨(hh%(m.C.fs:Int)).toNat,by have:=Int.emod_nonneg hh hfz;omega,by have:=Int.emod_nonneg hh hfz;have:=Int.emod_lt_of_pos hh (show(0:Int)<(m.C.fs:Int)by omega);omega⟩
   go_upto_region 9 with(first
    |(go_at_call 184;(with_reducible refine(HPF.out _ _ _ HB3.out).mono ?_);rintro e w4 ⟨A4,c4,rfl,ho4,hb4⟩;have HO4:=yH ho4;have HG4:=yH (HG3.out.trans (hb4.mono HG3.out.size));have HM4:=yH (MkB.below HM2.out HG4.out);clear ho4 hb4)
    |(go_at_call 100;(refine(object_any B g bb cb S m A4 _ c4 _ w4 HM4.out HO4.out.bytes HO4.out.2.1 hb0.1 hbig h7 hg).mono ?_);rintro e w5 ⟨rfl,b5,cb5,hm5,hat5,hk5⟩;have HM5:=yH hm5;have HK5:=yH hk5;have f5:w5.cell? ⟨g,49,none⟩=some (.int .i64 (m.C.fs:Int)):=HM5.out.st.cell (Mk.get_fs _ _);clear hm5 hk5)
    |fail)
   have HSL:=yH hsl1
   clear hsl1
   obtain⟨ys,hys⟩: ∃x,x=objB 2 (nums [hh,0,0]++s):=⟨_,rfl⟩
   rw[←hys]at HM5
   have hyl:(m.object ys).b.length=m.b.length+(16+(24+ns)+padN (24+ns)):=by show(m.b++ys).length=_;rw[List.length_append,hys,HO4.out.2.1]
   have hlo:(m.object ys).b.length≤4000000:=by rw[hyl];exact hbig
   have HR5:=yH (OwnE.keptF (OwnE.kept HR2.out HG4.out (yR _)) HK5.out (fun j hj e=>(HF.out j hj).elim fun a b=>e.elim a b))
   have HM5d:=yH (MkB.below HM5.out ((Below.refl w5.heap.size w5).drew))
   have t142:w5.drew.cell? ⟨g,142,none⟩=some (.int .u64 (m.depth:Int)):=HM5d.out.st.cell (Mk.get_depth _ _)
   have t145:w5.drew.cell? ⟨g,145,none⟩=some (.slice F k cf):=(HM5d.out.st.cell (Mk.get_f _ _)).trans (congrArg some hsf)
   have t123:w5.drew.cell? ⟨g,123,none⟩=some (.int .u64 (tf:Int)):=(HM5d.out.st.cell (Mk.get_Nk _ _ 4 123 (by decide) rfl)).trans (congrArg (fun x=>some (Value.int .u64 x)) h4)
   have HH5:=yH (hang_any g b5 cb5 (m.object ys).b.length tf m.b.length sl k cf _ _ _ F (l.map Prod.fst) B w5.drew HM5d.out.st (Mk.get_b _ _) HM5d.out.own HM5d.out.ne hlo (ownK_kns (OwnE.drew HR5.out)) (by rw[List.length_map,HL.out]) (by omega) (by omega) (by rw[hyl];omega) (fun q hq=>by obtain⟨p,hp,rfl⟩:=List.mem_map.1 hq;have:=hat p hp;rw[hyl];omega))
   obtain⟨iS,hiS⟩: ∃x,x=inSlot (l.map Prod.fst) sl:=⟨_,rfl⟩
   rw[←hiS]at HH5
   have HI:=yH hiS
   clear hiS
   obtain⟨M,hM⟩: ∃M,M=max m.depth iS:=⟨_,rfl⟩
   have hmx:=max_if m.depth iS
   rw[←hM]at hmx
   go_cut []from 65 to 86 (fun wx=>Hid (MkB wx B g b5 cb5 S {m.object ys with b:=hung (m.object ys).b (l.map Prod.fst) tf m.b.length sl,depth:=M})∧Hid (KeptF (Two g b5) w5 wx))
   case first=>
    refine wp_region_noPanic ?_
    refine wp_region_held_drew (S:=fun w':World=>w'.cell? ⟨g,145,none⟩=some (.slice F k cf)∧w'.cell? ⟨g,123,none⟩=some (.int .u64 (tf:Int))) (by kernel_rfl) (by exact⟨t145,t123⟩) (fun hHeld=>?_)
    refine tk (i:=0) (oi:=⟨some 65,_,_,_,_,_⟩) (v:=?_) rfl (Or.inl ⟨by rfl,?_⟩) ?_
    rotate_left
    ·intro W hSw;go_simp;try (with_reducible rfl)
    try simp only[Act.put,sA,sZ,sS]
    refine tk (i:=1) (oi:=⟨some 66,_,_,_,_,_⟩) (v:=?_) rfl (Or.inl ⟨by rfl,?_⟩) ?_
    rotate_left
    ·intro W hSw;go_simp;try (with_reducible rfl)
    try simp only[Act.put,sA,sZ,sS]
    refine tk (i:=2) (oi:=⟨some 67,_,_,_,_,_⟩) (v:=?_) rfl (Or.inl ⟨by rfl,?_⟩) ?_
    rotate_left
    ·intro W hSw;go_simp;try (with_reducible rfl)
    try simp only[Act.put,sA,sZ,sS]
    refine tk (i:=3) (oi:=⟨some 68,_,_,_,_,_⟩) (v:=?_) rfl (Or.inl ⟨by rfl,?_⟩) ?_
    rotate_left
    ·intro W hSw;go_simp;try (with_reducible rfl)
    try simp only[Act.put,sA,sZ,sS]
    refine tk (i:=5) (oi:=⟨some 70,_,_,_,_,_⟩) (v:=?_) rfl (Or.inl ⟨by rfl,?_⟩) ?_
    rotate_left
    ·intro W hSw;go_simp;try (with_reducible rfl)
    try simp only[Act.put,sA,sZ,sS]
    refine tk (i:=6) (oi:=⟨some 71,_,_,_,_,_⟩) (v:=?_) rfl (Or.inl ⟨by rfl,?_⟩) ?_
    rotate_left
    ·intro W hSw;go_simp;try (with_reducible rfl)
    try simp only[Act.put,sA,sZ,sS]
    refine tk (i:=7) (oi:=⟨some 72,_,_,_,_,_⟩) (v:=?_) rfl (Or.inl ⟨by rfl,?_⟩) ?_
    rotate_left
    ·intro W hSw;go_simp;try (with_reducible rfl)
    try simp only[Act.put,sA,sZ,sS]
    refine tk (i:=8) (oi:=⟨some 73,_,_,_,_,_⟩) (v:=?_) rfl (Or.inl ⟨by rfl,?_⟩) ?_
    rotate_left
    ·intro W hSw;go_simp;try (with_reducible rfl)
    try simp only[Act.put,sA,sZ,sS]
    refine tk (i:=9) (oi:=⟨some 74,_,_,_,_,_⟩) (v:=?_) rfl (Or.inl ⟨by rfl,?_⟩) ?_
    rotate_left
    ·intro W hSw;have hSx:=hSw.1;go_simp;try (with_reducible rfl)
    try simp only[Act.put,sA,sZ,sS]
    refine tk (i:=10) (oi:=⟨some 75,_,_,_,_,_⟩) (v:=?_) rfl (Or.inl ⟨by rfl,?_⟩) ?_
    rotate_left
    ·intro W hSw;go_simp;try (with_reducible rfl)
    try simp only[Act.put,sA,sZ,sS]
    refine tk (i:=11) (oi:=⟨some 76,_,_,_,_,_⟩) (v:=?_) rfl (Or.inl ⟨by rfl,?_⟩) ?_
    rotate_left
    ·intro W hSw;go_simp;try (with_reducible rfl)
    try simp only[Act.put,sA,sZ,sS]
    refine tk (i:=12) (oi:=⟨some 77,_,_,_,_,_⟩) (v:=?_) rfl (Or.inl ⟨by rfl,?_⟩) ?_
    rotate_left
    ·intro W hSw;go_simp;try (with_reducible rfl)
    try simp only[Act.put,sA,sZ,sS]
    refine tk (i:=13) (oi:=⟨some 78,_,_,_,_,_⟩) (v:=?_) rfl (Or.inl ⟨by rfl,?_⟩) ?_
    rotate_left
    ·intro W hSw;go_simp;try (with_reducible rfl)
    try simp only[Act.put,sA,sZ,sS]
    refine tk (i:=14) (oi:=⟨some 79,_,_,_,_,_⟩) (v:=?_) rfl (Or.inl ⟨by rfl,?_⟩) ?_
    rotate_left
    ·intro W hSw;go_simp;try (with_reducible rfl)
    try simp only[Act.put,sA,sZ,sS]
    refine tk (i:=15) (oi:=⟨some 80,_,_,_,_,_⟩) (v:=?_) rfl (Or.inl ⟨by rfl,?_⟩) ?_
    rotate_left
    ·intro W hSw;have hSx:=hSw.2;go_simp;try (with_reducible rfl)
    try simp only[Act.put,sA,sZ,sS]
    refine tk (i:=16) (oi:=⟨some 81,_,_,_,_,_⟩) (v:=?_) rfl (Or.inl ⟨by rfl,?_⟩) ?_
    rotate_left
    ·intro W hSw;go_simp;try (with_reducible rfl)
    try simp only[Act.put,sA,sZ,sS]
    refine tk (i:=17) (oi:=⟨some 82,_,_,_,_,_⟩) (v:=?_) rfl (Or.inl ⟨by rfl,?_⟩) ?_
    rotate_left
    ·intro W hSw;go_simp;try (with_reducible rfl)
    try simp only[Act.put,sA,sZ,sS]
    refine wpAnyH_ready (rs:=[4,18]) (by kernel_rfl) (by simp) ?_
    refine AllReadyH.cons (o:=⟨some 69,_,_,_,_,_⟩) rfl (fun K hK=>?_) (AllReadyH.cons (o:=⟨some 83,_,_,_,_,_⟩) rfl (fun K hK=>?_) AllReadyH.nil)
    ·go_simp
     skip
     try go_wp2_with fail
     refine hK.out _ _ (by exact⟨t145,t123⟩) (fun hHeld=>?_)
     clear hK K
     try simp only[Act.put,sA,sZ,sS]
     refine wpAnyH_ready (rs:=[18]) (by kernel_rfl) (by simp) ?_
     refine AllReadyH.cons (o:=⟨some 83,_,_,_,_,_⟩) rfl (fun K hK=>?_) AllReadyH.nil
     go_simp
     (refine HH5.out.mono ?_);rintro e w6 ⟨rfl,ho6,hp6⟩;have HM6:=yH (MkB.put HM5d.out ho6.2.1 ho6 hp6);have v142:w6.cell? ⟨g,142,none⟩=some (.int .u64 (m.depth:Int)):=HM6.out.st.cell (Mk.get_depth _ _);have z142:w6.frozen? ⟨g,142,none⟩=false:=HM6.out.st.frozen 142;have v145:w6.cell? ⟨g,145,none⟩=some (.slice F k cf):=(HM6.out.st.cell (Mk.get_f _ _)).trans (congrArg some hsf);have v123:w6.cell? ⟨g,123,none⟩=some (.int .u64 (tf:Int)):=(HM6.out.st.cell (Mk.get_Nk _ _ 4 123 (by decide) rfl)).trans (congrArg (fun x=>some (Value.int .u64 x)) h4);have y145: ∀v,(w6.setCell ⟨g,142,none⟩ v).cell? ⟨g,145,none⟩=some (.slice F k cf):=fun v=>((HM6.out.st.set_ 142 v).cell ((List.getElem?_set_ne (by decide)).trans (Mk.get_f _ _))).trans (congrArg some hsf);have y123: ∀v,(w6.setCell ⟨g,142,none⟩ v).cell? ⟨g,123,none⟩=some (.int .u64 (tf:Int)):=fun v=>((HM6.out.st.set_ 142 v).cell ((List.getElem?_set_ne (by decide)).trans (Mk.get_Nk _ _ 4 123 (by decide) rfl))).trans (congrArg (fun x=>some (Value.int .u64 x)) h4);have HP6:=yH hp6;clear ho6 hp6
     try go_wp2_with fail
     refine hK.out _ _ (by exact⟨v145,v123⟩) (fun hHeld=>?_)
     clear hK K
     try simp only[Act.put,sA,sZ,sS]
     refine tk (i:=19) (oi:=⟨some 84,_,_,_,_,_⟩) (v:=?_) rfl (Or.inl ⟨by rfl,?_⟩) ?_
     rotate_left
     ·intro W hSw;go_simp;try (with_reducible rfl)
     try simp only[Act.put,sA,sZ,sS]
     refine tk (i:=20) (oi:=⟨some 85,_,_,_,_,_⟩) (v:=?_) rfl (Or.inl ⟨by rfl,?_⟩) ?_
     rotate_left
     ·intro W hSw;go_simp;try (with_reducible rfl)
     try simp only[Act.put,sA,sZ,sS]
     refine tk (i:=21) (oi:=⟨some 86,_,_,_,_,_⟩) (v:=?_) rfl (Or.inl ⟨by rfl,?_⟩) ?_
     rotate_left
     ·intro W hSw;go_simp;try (with_reducible rfl)
     try simp only[Act.put,sA,sZ,sS]
     refine wpAnyH_ready (rs:=[22]) (by kernel_rfl) (by simp) ?_
     refine AllReadyH.cons (o:=⟨none,_,_,_,_,_⟩) rfl (fun K hK=>?_) AllReadyH.nil
     go_simp
     skip
     try go_wp2_with fail
     refine hK.out _ _ (by exact⟨y145 _,y123 _⟩) (fun hHeld=>?_)
     clear hK K
     try simp only[Act.put,sA,sZ,sS]
     refine wpAnyH_done (by kernel_rfl) ?_ _
     refine NoPanic.normal ?_
     try go_wp2_with fail
     go_meet
     case rel=>
      try rw[hmx]
      try rw[←hM]
      exact⟨yH (MkB.depth HM6.out M),yH (((KeptF.refl (Two g b5) w5).drew.trans (HP6.out.kept.mono (fun i h=>Or.inr h)) (fun _ _ h=>h)).setCell (p:=⟨g,142,none⟩) (fun _=>Or.inl rfl) _)⟩
    ·go_simp
     (refine HH5.out.mono ?_);rintro e w6 ⟨rfl,ho6,hp6⟩;have HM6:=yH (MkB.put HM5d.out ho6.2.1 ho6 hp6);have v142:w6.cell? ⟨g,142,none⟩=some (.int .u64 (m.depth:Int)):=HM6.out.st.cell (Mk.get_depth _ _);have z142:w6.frozen? ⟨g,142,none⟩=false:=HM6.out.st.frozen 142;have v145:w6.cell? ⟨g,145,none⟩=some (.slice F k cf):=(HM6.out.st.cell (Mk.get_f _ _)).trans (congrArg some hsf);have v123:w6.cell? ⟨g,123,none⟩=some (.int .u64 (tf:Int)):=(HM6.out.st.cell (Mk.get_Nk _ _ 4 123 (by decide) rfl)).trans (congrArg (fun x=>some (Value.int .u64 x)) h4);have y145: ∀v,(w6.setCell ⟨g,142,none⟩ v).cell? ⟨g,145,none⟩=some (.slice F k cf):=fun v=>((HM6.out.st.set_ 142 v).cell ((List.getElem?_set_ne (by decide)).trans (Mk.get_f _ _))).trans (congrArg some hsf);have y123: ∀v,(w6.setCell ⟨g,142,none⟩ v).cell? ⟨g,123,none⟩=some (.int .u64 (tf:Int)):=fun v=>((HM6.out.st.set_ 142 v).cell ((List.getElem?_set_ne (by decide)).trans (Mk.get_Nk _ _ 4 123 (by decide) rfl))).trans (congrArg (fun x=>some (Value.int .u64 x)) h4);have HP6:=yH hp6;clear ho6 hp6
     try go_wp2_with fail
     refine hK.out _ _ (by exact⟨v145,v123⟩) (fun hHeld=>?_)
     clear hK K
     try simp only[Act.put,sA,sZ,sS]
     refine wpAnyH_ready (rs:=[4]) (by kernel_rfl) (by simp) ?_
     refine AllReadyH.cons (o:=⟨some 69,_,_,_,_,_⟩) rfl (fun K hK=>?_) AllReadyH.nil
     go_simp
     skip
     try go_wp2_with fail
     refine hK.out _ _ (by exact⟨v145,v123⟩) (fun hHeld=>?_)
     clear hK K
     try simp only[Act.put,sA,sZ,sS]
     refine tk (i:=19) (oi:=⟨some 84,_,_,_,_,_⟩) (v:=?_) rfl (Or.inl ⟨by rfl,?_⟩) ?_
     rotate_left
     ·intro W hSw;go_simp;try (with_reducible rfl)
     try simp only[Act.put,sA,sZ,sS]
     refine tk (i:=20) (oi:=⟨some 85,_,_,_,_,_⟩) (v:=?_) rfl (Or.inl ⟨by rfl,?_⟩) ?_
     rotate_left
     ·intro W hSw;go_simp;try (with_reducible rfl)
     try simp only[Act.put,sA,sZ,sS]
     refine tk (i:=21) (oi:=⟨some 86,_,_,_,_,_⟩) (v:=?_) rfl (Or.inl ⟨by rfl,?_⟩) ?_
     rotate_left
     ·intro W hSw;go_simp;try (with_reducible rfl)
     try simp only[Act.put,sA,sZ,sS]
     refine wpAnyH_ready (rs:=[22]) (by kernel_rfl) (by simp) ?_
     refine AllReadyH.cons (o:=⟨none,_,_,_,_,_⟩) rfl (fun K hK=>?_) AllReadyH.nil
     go_simp
     skip
     try go_wp2_with fail
     refine hK.out _ _ (by exact⟨y145 _,y123 _⟩) (fun hHeld=>?_)
     clear hK K
     try simp only[Act.put,sA,sZ,sS]
     refine wpAnyH_done (by kernel_rfl) ?_ _
     refine NoPanic.normal ?_
     try go_wp2_with fail
     go_meet
     case rel=>
      try rw[hmx]
      try rw[←hM]
      exact⟨yH (MkB.depth HM6.out M),yH (((KeptF.refl (Two g b5) w5).drew.trans (HP6.out.kept.mono (fun i h=>Or.inr h)) (fun _ _ h=>h)).setCell (p:=⟨g,142,none⟩) (fun _=>Or.inl rfl) _)⟩
   case rest=>
    obtain⟨HM7,HK7⟩:=hcut
    clear t142 t145 t123 hmx
    go_upto_region 10 with fail
    have z135:wc.cell? ⟨g,135,none⟩=some (.int .u64 (m.h.N 16)):=HM7.out.st.cell (Mk.get_Nk _ _ 16 135 (by decide) rfl)
    have zf:wc.frozen? ⟨g,135,none⟩=false:=HM7.out.st.frozen 135
    have hwr:IntKind.u64.wrap (m.h.N 16+1)=m.h.N 16+1:=by rw[IntKind.wrap_u64];omega
    go_region
    have HM8:=yH (MkB.below (MkB.setN HM7.out 16 135 (by decide) rfl (m.h.N 16+1)) (Below.refl _ _).drew)
    have HK8:=yH ((HK7.out.setCell (p:=⟨g,135,none⟩) (fun _=>Or.inl rfl) (.int .u64 (m.h.N 16+1))).drew)
    generalize (wc.setCell ⟨g,135,none⟩ (.int .u64 (m.h.N 16+1))).drew=w8 at*
    have hFo: ∀j,ownB F=some j→j≠g∧j≠b5:=fun j hj=>by
     refine⟨(HF.out j hj).1,fun e=>?_⟩
     rcases hat5 with h|h
     ·exact(HF.out j hj).2 (e.trans h)
     ·have:=(OwnE.ltB (OwnE.kept HR2.out HG4.out (yR _)) j hj).2
      omega
    have HR8:=yH (OwnE.keptF HR5.out HK8.out (fun j hj e=>e.elim (hFo j hj).1 (hFo j hj).2))
    have x145:w8.cell? ⟨g,145,none⟩=some (.slice F k cf):=(HM8.out.st.cell (Mk.get_f _ _)).trans (congrArg some hsf)
    go_upto_region 12 with(first
     |(at_builtin;(refine wpList_append_elt_at knElt rfl (.tmp 102) (.tmp 107) rfl B F k cf (kf l) rfl (OwnE.alloc HR8.out _) ⟨w8.heap.size,0,none⟩ 1 1 (knC ⟨s,m.b.length,sl,0,[]⟩ (.slice none 0 0)) rfl rfl (Blk.news (Blk.new w8 _ 197)) (by simp[knC,Value.oneCell']) (by omega) (by omega) (by unfold maxLen;omega) ?_);intro F9 c9 w9 ho9 hgr9 hat9;have HO9:=yH ho9;have HM9:=yH (MkB.grown (MkB.below HM8.out ((Below.refl _ _).alloc (yR _) _)) hgr9 (fun e=>(hFo _ e).1 rfl) (fun e=>(hFo _ e).2 rfl));have HK9:=yH (KeptF.grow _ hgr9);have x9:w9.cell? ⟨g,145,none⟩=some (.slice F k cf):=(HM9.out.st.cell (Mk.get_f _ _)).trans (congrArg some hsf);have z9:w9.frozen? ⟨g,145,none⟩=false:=HM9.out.st.frozen 145;clear ho9 hgr9)
     |fail)
    go_wp2
    go_ret
    have e1:ys=Mk.fobj m s:=by rw[hys,←HH.out];rfl
    have e2:sl=Mk.fslot m s:=by
     have:=HSL.out
     rw[←HH.out]at this
     unfold Mk.fslot Mk.sum Cf.file
     rw[this]
     exact(Int.toNat_natCast sl).symm
    have hF9: ∀j,ownB F9=some j→j≠g∧j≠b5:=fun j hj=>by
     rcases hat9 with h|h
     ·exact hFo j (h▸hj)
     ·rw[h]at hj
      injection hj with hj
      have h1:=HM8.out.st.lt
      have h2:=(own_lt HM8.out.own).2
      simp at hj
      omega
    have sz2:=HG2.out.size
    have sz4:=HG4.out.size
    refine .inr ⟨HLo.out,rfl,b5,cb5,F9,c9,⟨?_,rfl,?_,hF9,?_⟩,?_,?_,?_⟩
    ·refine MkB.same (MkB.setF HM9.out (.slice F9 (k+1) c9)) rfl ?_ ?_ ?_
     ·show setN (m.object ys).h 16 _=setN (m.object (Mk.fobj m s)).h 16 _
      rw[e1]
     ·show M=max m.depth (inSlot (l.map Prod.fst) (Mk.fslot m s))
      rw[hM,HI.out,e2]
     ·show hung (m.b++ys) (l.map Prod.fst) tf m.b.length sl=hung (m.b++Mk.fobj m s) (l.map Prod.fst) tf m.b.length (Mk.fslot m s)
      rw[e1,e2]
    ·rw[←e2]
     unfold OwnK
     rw[kf_snoc]
     exact OwnE.keptF HO9.out (KeptF.set1 w9 g 145 _) (fun j hj e=>(hF9 j hj).1 e)
    ·intro p hp
     rcases List.mem_append.1 hp with h|h
     ·exact htx p h
     ·rw[List.mem_singleton.1 h]
      exact hs
    ·rcases hat5 with h|h
     ·exact .inl h
     ·exact .inr (by omega)
    ·rcases hat9 with h|h
     ·exact .inl h
     ·refine .inr ⟨_,h,?_⟩
      have h1:=HK5.out.size
      have h2:=HK8.out.size
      simp
      omega
    ·have K0:=KeptF.of_below (F:=fun j=>j=g∨j=bb∨ownB F=some j) (HG2.out.trans (HG4.out.mono HG2.out.size))
     have K1:=K0.trans HK5.out (fun i hi h=>h.elim Or.inl (fun e=>Or.inr (Or.inl e)))
     have K2:=K1.trans HK8.out (fun i hi h=>by
      rcases h with h|h
      ·exact .inl h
      ·rcases hat5 with h5|h5
       ·exact .inr (.inl (h.trans h5))
       ·omega)
     have K3:=(K2.alloc _).trans HK9.out (fun i hi h=>Or.inr (Or.inr h))
     exact K3.setCell (p:=⟨g,145,none⟩) (fun _=>Or.inl rfl) _
end Mg
namespace Na
open Bytes8 Blk8 Own8 OwnA OwnE LeA Ob Od Ga Ma Kf Mb Mc Md Mf Mg Fb Dc
structure Pl where
 bb:Nat
 cb:Nat
 D:Option Addr
 nd:Nat
 cd:Nat
 F:Option Addr
 nf:Nat
 cf:Nat
 M:Value
 dl:List (Kn×Value)
 fl:List (Kn×Value)
def Pl.S (p:Pl):Sl:=⟨.bool false,.slice p.D p.nd p.cd,.slice p.F p.nf p.cf,p.M⟩
def Pl.foot (p:Pl)(g:Nat)(k:Nat):Prop:=k=g∨k=p.bb∨ownB p.D=some k∨ownB p.F=some k
def Pl.away (p:Pl)(B g:Nat)(k:Nat):Prop:=p.foot g k∨k<B
def Arr (w:World)(Ft:Nat→Prop)(v:Value)(l:List Nat):Prop:=
 ∃A n c,v= .slice A n c∧l.length=n∧ ∀i (h:i<l.length),∃b,A=some ⟨b,0,none⟩∧b<w.heap.size∧ ¬Ft b∧w.cell? ⟨b,i,none⟩=some (.int .u64 (l[i]:Int))
theorem Arr.nil (w:World)(Ft:Nat→Prop):Arr w Ft (.slice none 0 0) []:=⟨none,0,0,rfl,rfl,fun i h=>absurd h (by simp)⟩
theorem Arr.kept {w w':World}{Ft Ft' G:Nat→Prop}{v:Value}{l:List Nat}(h:Arr w Ft v l)(hk:KeptF G w w')(hG: ∀b,b<w.heap.size→ ¬Ft b→ ¬G b)(hF: ∀b,b<w.heap.size→ ¬Ft b→ ¬Ft' b):Arr w' Ft' v l:=by
 obtain⟨A,n,c,rfl,hl,h⟩:=h
 refine⟨A,n,c,rfl,hl,fun i hi=>?_⟩
 obtain⟨b,e,hb,hf,hc⟩:=h i hi
 exact⟨b,e,yL hb hk.size,hF b hb hf,(World.cell?_of_block (a:=⟨b,i,none⟩) (hk.block b hb (hG b hb hf))).trans hc⟩
structure At (w:World)(B g:Nat)(p:Pl)(m:Mk):Prop where
 st:MkB w B g p.bb p.cb p.S m
 dr:OwnK w B p.D p.nd p.cd p.dl
 fr:OwnK w B p.F p.nf p.cf p.fl
 dm:p.dl.map Prod.fst=m.datas
 fm:p.fl.map Prod.fst=m.fields
 da: ∀q∈p.dl,Arr w (p.away B g) q.2 q.1.arrays
 ma:Arr w (p.away B g) p.M m.main
 dg: ∀k,ownB p.D=some k→k≠g∧k≠p.bb
 fg: ∀k,ownB p.F=some k→k≠g∧k≠p.bb
 df: ∀k,ownB p.D=some k→ownB p.F≠some k
 gB:B≤g
 fo: ∀q∈p.fl,q.2= .slice none 0 0
theorem At.lt {w:World}{B g:Nat}{p:Pl}{m:Mk}(h:At w B g p m): ∀k,p.foot g k→B≤k∧k<w.heap.size:=by
 rintro k (rfl|rfl|h1|h1)
 ·exact⟨h.gB,h.st.st.lt⟩
 ·exact own_lt h.st.own
 ·exact OwnE.ltB h.dr k h1
 ·exact OwnE.ltB h.fr k h1
theorem At.off {w w':World}{B g:Nat}{p:Pl}{m:Mk}{G:Nat→Prop}(h:At w B g p m)(hk:KeptF G w w')(hG: ∀k,k<w.heap.size→ ¬G k):At w' B g p m:=
 have hs:=h.lt
 have off: ∀k,p.foot g k→ ¬G k:=fun k hf=>hG k (hs k hf).2
 {st:=⟨Kf.Blk.keptF h.st.st hk (off _ (.inl rfl)),Kf.Own.keptF h.st.own hk (fun k hk'=>off k (.inr (.inl (by injection hk' with e;exact e.symm)))),h.st.ne⟩
  dr:=OwnE.keptF h.dr hk (fun k e=>off k (.inr (.inr (.inl e))))
  fr:=OwnE.keptF h.fr hk (fun k e=>off k (.inr (.inr (.inr e))))
  dm:=h.dm,fm:=h.fm
  da:=fun q hq=>(h.da q hq).kept hk (fun b hb _=>hG b hb) (fun _ _ h=>h)
  ma:=h.ma.kept hk (fun b hb _=>hG b hb) (fun _ _ h=>h)
  dg:=h.dg,fg:=h.fg,df:=h.df,gB:=h.gB,fo:=h.fo}
theorem At.below {w w':World}{B g:Nat}{p:Pl}{m:Mk}(h:At w B g p m)(hb:Below w.heap.size w w'):At w' B g p m:=h.off (KeptF.of_below (F:=None') hb) (fun _ _ h=>h)
theorem At.turn {w w':World}{B g:Nat}{p p':Pl}{m m':Mk}(h:At w B g p m)(hk:KeptF (p.foot g) w w')(hf: ∀k,p'.foot g k→p.foot g k∨w.heap.size≤k)
 (st:MkB w' B g p'.bb p'.cb p'.S m')(dr:OwnK w' B p'.D p'.nd p'.cd p'.dl)(fr:OwnK w' B p'.F p'.nf p'.cf p'.fl)(dm:p'.dl.map Prod.fst=m'.datas)(fm:p'.fl.map Prod.fst=m'.fields)
 (da: ∀q∈p'.dl,q∈p.dl∨Arr w' (p'.away B g) q.2 q.1.arrays)(ma:(p'.M=p.M∧m'.main=m.main)∨Arr w' (p'.away B g) p'.M m'.main)
 (dg: ∀k,ownB p'.D=some k→k≠g∧k≠p'.bb)(fg: ∀k,ownB p'.F=some k→k≠g∧k≠p'.bb)(df: ∀k,ownB p'.D=some k→ownB p'.F≠some k)(fo: ∀q∈p'.fl,q∈p.fl∨q.2= .slice none 0 0):At w' B g p' m':=
 have hn: ∀b,b<w.heap.size→ ¬p.away B g b→ ¬p'.away B g b:=fun b hb hnf h1=>h1.elim (fun h1=>(hf b h1).elim (fun h=>hnf (.inl h)) (fun h2=>absurd hb (by omega))) (fun h=>hnf (.inr h))
 {st:=st,dr:=dr,fr:=fr,dm:=dm,fm:=fm,dg:=dg,fg:=fg,df:=df,gB:=h.gB
  fo:=fun q hq=>(fo q hq).elim (h.fo q) id
  da:=fun q hq=>(da q hq).elim (fun h1=>(h.da q h1).kept hk (fun _ _ h h2=>h (.inl h2)) hn) id
  ma:=ma.elim (fun h1=>by rw[h1.1,h1.2];exact h.ma.kept hk (fun _ _ h h2=>h (.inl h2)) hn) id}
def Mk.tf (m:Mk):Nat:=304+16*m.C.ds
def Mk.dslot (m:Mk)(s:List Int):Nat:=(Mk.sum m s%(m.C.ds:Int)).toNat
def Mk.dobj (m:Mk)(s:List Int):List Int:=objB 1 (nums [Mk.sum m s,0,0,0,0,0]++s)
def findK (l:List Kn)(s:List Int):Option Kn:=l.find? fun k=>k.text==s
def Mk.put1 (m:Mk)(s:List Int):Mk:=
 {m.object (Mk.dobj m s)with
  b:=hung (m.b++Mk.dobj m s) m.datas 288 m.b.length (Mk.dslot m s)
  h:=setN (setN (m.object (Mk.dobj m s)).h 19 (max (m.h.N 19) (inSlot m.datas (Mk.dslot m s):Nat))) 15 (m.h.N 15+1)
  datas:=m.datas++ [⟨s,m.b.length,Mk.dslot m s,0,[]⟩]}
def Mk.fieldOf (m:Mk)(s:List Int):Nat×Mk:=match findK m.fields s with
 |some k=>(k.at_,m)
 |none=>(m.b.length,Mk.named m m.fields (Mk.tf m) s)
def Mk.put2 (m:Mk)(at_ k:Nat):Mk:={m with b:=put8 (put8 m.b (at_+32) (u8 m.b (k+32))) (k+32) at_}
def Mk.dataNew (m:Mk)(nm s:List Int):Mk:=Mk.put2 (Mk.fieldOf (Mk.put1 m s) nm).2 m.b.length (Mk.fieldOf (Mk.put1 m s) nm).1
def idxK (l:List Kn)(s:List Int):Option Nat:=l.findIdx? fun k=>k.text==s
def Mk.dataOf (m:Mk)(nm s:List Int):Nat×Mk:=match idxK m.datas s with
 |some i=>(i,m)
 |none=>(m.datas.length,Mk.dataNew m nm s)
structure Chain (L:Nat)(arr:List Nat)(n:Nat):Prop where
 le:n≤rooms arr.length
 ge:0<arr.length→rooms (arr.length-1)≤n
 fits: ∀i (h:i<arr.length),arr[i]+24+8*roomN i≤L
theorem Chain.mono {L L':Nat}{arr:List Nat}{n:Nat}(h:Chain L arr n)(hL:L≤L'):Chain L' arr n:=⟨h.le,h.ge,fun i hi=>Nat.le_trans (h.fits i hi) hL⟩
theorem Chain.nil (L:Nat):Chain L [] 0:=⟨Nat.zero_le _,fun h=>absurd h (by simp),fun i h=>absurd h (by simp)⟩
structure Inv (m:Mk):Prop where
 F:IdOk m.C.F
 ds:0<m.C.ds∧m.C.ds≤64
 fs:0<m.C.fs∧m.C.fs≤64
 n2:m.h.N 2=((288:Nat):Int)
 n4:m.h.N 4=(Mk.tf m:Int)
 len:304+16*(m.C.ds+m.C.fs)≤m.b.length
 l8:m.b.length%8=0
 dat: ∀k∈m.datas,k.at_+64≤m.b.length∧AllB k.text∧k.text.length≤400∧Chain m.b.length k.arrays (k.count-1)∧k.count≤m.b.length
 fld: ∀k∈m.fields,k.at_+40≤m.b.length∧AllB k.text
 mn: ∃n:Nat,m.h.N 8=(n:Int)∧Chain m.b.length m.main n∧n≤m.b.length
 n7:0≤m.h.N 7∧m.h.N 7≤m.b.length
 n15:0≤m.h.N 15∧m.h.N 15≤m.b.length
 n16:0≤m.h.N 16∧m.h.N 16≤m.b.length
 n18:0≤m.h.N 18∧m.h.N 18≤m.b.length
 n19:0≤m.h.N 19∧m.h.N 19≤m.b.length
 dep:m.depth≤m.b.length
 dn:m.datas.length≤m.b.length
 fn:m.fields.length≤m.b.length
end Na
end Go.Proofs.YtiddkgcafpaekaaGreat
