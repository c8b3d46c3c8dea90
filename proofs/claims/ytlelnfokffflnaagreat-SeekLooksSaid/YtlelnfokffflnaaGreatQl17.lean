/-
  Texts beneath the proof.
-/
import Derived.Test.YtlelnfokffflnaaGreatQl16
set_option linter.unusedVariables false
set_option linter.unusedSimpArgs false
set_option maxRecDepth 100000
set_option maxHeartbeats 4000000
open Go.ChangeShapes Go.WideShapes Go.ChangeAt Go.RowKit
namespace Go.Proofs.YtlelnfokffflnaaGreat
namespace Mi
open Bytes8 Blk8 Own8 OwnE Gb Gp Numb Seq8
def mkId (x:Int):Nat→Int:=fun i=>if i=0 then 94 else if i=15 then x else 0
theorem aCX {x:Int}(h:0≤x∧x<256):IdOk (mkId x):=fun i=>by
 unfold mkId
 split
 ·decide
 ·split
  ·exact h
  ·decide
abbrev idR (x:Int):List Value:=(idL (mkId x)).map (Value.int .u8)
theorem aOz (x:Int):(z16.set 0 (.int .u8 94)).set 15 (.int .u8 x)=idR x:=rfl
theorem aFj (x:Int):(Tryz.prog.info? 37).map (·.size)=some (idR x).toArray.size:=by rw[idInfo];rfl
theorem aOA (x:Int):(idR x).toArray.all (·.oneCell')=true:=by
 rw[Array.all_eq_true_iff_forall_mem]
 intro v b
 simp only[List.mem_toArray,List.mem_map]at b
 obtain⟨i,_,rfl⟩:=b
 rfl
attribute [local irreducible] wpList Code.wp
theorem aKo (n:Int)(w:World):
 Calls Tryz.prog 119 #[.int .i64 n] w fun e w'=> ∃x:Int,(0≤x∧x<5)∧e= .returned (idV (mkId x))∧Below w.heap.size w w':=by
 obtain⟨j,g,c⟩:=aDO n 5 (by decide)
 have b:=yH fun w=>aBV n 5 j w (by decide) (by decide) g.out
 clear g
 have l:=yH (show Blk ((w.alloc (.cells z16.toArray 37)).alloc (.cells z16.toArray 37)) w.heap.size z16 37 from(Blk.new w z16 _).alloc _)
 have f:=yH (show Blk ((w.alloc (.cells z16.toArray 37)).alloc (.cells z16.toArray 37)) (w.heap.size+1) z16 37 from Blk.new_at _ _ _ _ (by simp))
 have b0:=yH (((Below.refl w.heap.size w).alloc (yR _) (.cells z16.toArray 37)).alloc (by simp) (.cells z16.toArray 37))
 have t:=yH (show((w.alloc (.cells z16.toArray 37)).alloc (.cells z16.toArray 37)).heap.size=w.heap.size+2 by simp)
 go_enter Tryz.func119,Tryz.ntmps119
 go_upto_region 2 with fail
 generalize (w.alloc (.cells z16.toArray 37)).alloc (.cells z16.toArray 37)=w0 at*
 have r:=f.out.cell (i:=0) rfl
 have s:=f.out.frozen 0
 have d:=yH (f.out.set_ 0 (.int .u8 94))
 have k:=d.out.cell (i:=15) rfl
 have o:=d.out.frozen 15
 go_upto_region 3 with(first|(go_at_call 18;(with_reducible refine(b.out _).mono ?_);rintro e w' ⟨rfl,rfl⟩)|fail)
 have q:=yH (show Blk _ (w.heap.size+1) (idR (j:Int)) 37 from aOz (j:Int)▸d.out.set_ 15 (.int .u8 (j:Int)))
 have m:=yH ((b0.out.setCell (p:=⟨w.heap.size+1,0,none⟩) (Nat.le_succ _) (.int .u8 94)).setCell (p:=⟨w.heap.size+1,15,none⟩) (Nat.le_succ _) (.int .u8 (j:Int)))
 have Z:=yH ((l.out.far (p:=⟨w.heap.size+1,0,none⟩) (by simp) (.int .u8 94)).far (p:=⟨w.heap.size+1,15,none⟩) (by simp) (.int .u8 (j:Int)))
 generalize (w0.setCell ⟨w.heap.size+1,0,none⟩ (.int .u8 94)).setCell ⟨w.heap.size+1,15,none⟩ (.int .u8 (j:Int))=w1 at*
 go_wp2_with(first
  |((with_reducible apply aAb 9);refine wpList_load_row rfl 37 (.tmp 3) rfl (w.heap.size+1) rfl 37 (idR (j:Int)).toArray (0,0) _ q.out Tryz.underlying37 rfl (aFj _) ?_)
  |((with_reducible apply aAa (.tmp 2) (.tmp 9));refine wpList_store_row rfl 37 (.tmp 2) (.tmp 9) rfl w.heap.size (idR (j:Int)).toArray rfl rfl 37 _ Z.out (aFj _) rfl (aOA _) ?_)
  |fail)
 refine bodyPost_ret (v:= .agg (idR (j:Int)).toArray) (by exact results_cell_row Tryz.results119 _ _ w.heap.size 37 _ (0,0) _ rfl (setRow_heap _ w.heap.size _ _ _ (0,0) Z.out) Tryz.underlying37 rfl (aFj _)) rfl ?_
 exact⟨(j:Int),⟨by omega,c⟩,rfl,below_setRow m.out (yR _) _⟩
theorem aMM (c:Nat)(a:Option Addr)(len b:Nat)(f:Nat→Int)(k:Nat)(w:World)(h:SeqIn w c a len b f k):
 Calls Tryz.prog 64 #[.pointer (some ⟨c,0,none⟩)] w fun e w'=>e= .returned (.bool (decide (k<len)))∧Below w.heap.size w w':=by
 have g:=h.1.cell (i:=0) rfl
 have d:=h.1.cell (i:=1) rfl
 clear h
 go_enter Tryz.func64,Tryz.ntmps64
 go_wp2
 go_region
 go_wp2
 go_ret
 exact⟨by simp,(Below.refl _ _).drew⟩
end Mi
namespace Mf
open Bytes8 Blk8 Own8 OwnA OwnE Od Ga Ma Kf Mb Mc Md Me Fa Fb Dc
def knC (k:Kn)(v:Value):List Value:=[.string (T k.text),.int .u64 (k.at_:Int),.int .i64 (k.slot:Int),.int .i64 (k.count:Int),v]
def kf (l:List (Kn×Value)):List Value:=l.flatMap fun p=>knC p.1 p.2
theorem aKp (l:List (Kn×Value))(p:Kn×Value):kf (l++ [p])=kf l++knC p.1 p.2:=by simp[kf]
theorem aN3 (l:List (Kn×Value)):(kf l).length=l.length*5:=by
 induction l with
 |nil=>rfl
 |cons p l ih=>
  have:kf (p::l)=knC p.1 p.2++kf l:=by simp[kf]
  rw[this,List.length_append,ih]
  simp[knC]
  omega
theorem aPI (l:List (Kn×Value)): ∀(i:Nat) (h:i<l.length) (j:Nat),j<5→(kf l)[i*5+j]? =(knC l[i].1 l[i].2)[j]? :=by
 induction l with
 |nil=>intro i h;cases h
 |cons p l ih=>
  intro i h j c
  have e:kf (p::l)=knC p.1 p.2++kf l:=by simp[kf]
  have b:(knC p.1 p.2).length=5:=rfl
  rw[e]
  cases i with
  |zero=>
   rw[List.getElem?_append_left (by rw[b];omega)]
   simp
  |succ i=>
   rw[List.getElem?_append_right (by rw[b];omega),b,show(i+1)*5+j-5=i*5+j by omega]
   rw[ih i (by simpa using h) j c]
   rfl
theorem aMN:Elt 173 155 5 64 (.agg #[.string {data:= #[]},.int .u64 0,.int .i64 0,.int .i64 0,.slice none 0 0]):=⟨Tryz.underlying155,by kernel_rfl,rfl,by decide⟩
abbrev OwnK (w:World)(B:Nat)(A:Option Addr)(n c:Nat)(l:List (Kn×Value)):Prop:=OwnE 173 5 w B A n c (kf l)
theorem aAy {w:World}{B n c:Nat}{A:Option Addr}{l:List (Kn×Value)}(h:OwnK w B A n c l):l.length=n:=by
 have:=h.len
 rw[aN3]at this
 omega
theorem aBp {w:World}{B n c:Nat}{A:Option Addr}{l:List (Kn×Value)}(h:OwnK w B A n c l)(i:Nat)(k:i<l.length): ∃b,A=some ⟨b,0,none⟩∧b<w.heap.size∧
 w.cell? ⟨b,i*5,none⟩=some (.string (T l[i].1.text))∧w.cell? ⟨b,i*5+1,none⟩=some (.int .u64 (l[i].1.at_:Int))∧w.cell? ⟨b,i*5+2,none⟩=some (.int .i64 (l[i].1.slot:Int))∧w.cell? ⟨b,i*5+3,none⟩=some (.int .i64 (l[i].1.count:Int))∧w.cell? ⟨b,i*5+4,none⟩=some l[i].2:=by
 have p:=aN3 l
 obtain⟨b,rfl,_,m,o⟩:=OwnE.cell h (i:=i*5) (by omega)
 have d: ∀j,j<5→w.cell? ⟨b,i*5+j,none⟩=(knC l[i].1 l[i].2)[j]? :=fun j hj=>by
  obtain⟨b2,f,_,_,g⟩:=OwnE.cell h (i:=i*5+j) (by omega)
  injection f with f
  injection f with f
  subst f
  rw[g,aPI l i k j hj]
 refine⟨b,rfl,m,?_,d 1 (by decide),d 2 (by decide),d 3 (by decide),d 4 (by decide)⟩
 have:=d 0 (by decide)
 rw[Nat.add_zero]at this
 exact this
theorem aIf {w:World}{B n c:Nat}{A:Option Addr}{l:List (Kn×Value)}(h:OwnK w B A n c l):Kns w A (l.map Prod.fst):=fun i hi=>by
 rw[List.length_map]at hi
 obtain⟨b,e,k,j,f,d,g,_⟩:=aBp h i hi
 refine⟨b,e,k,?_⟩
 simp only[List.getElem_map]
 exact⟨j,f,d,g⟩
theorem OwnE.keptF {E:TypeId}{size:Nat}{F:Nat→Prop}{w w':World}{base n c:Nat}{A:Option Addr}{xs:List Value}(h:OwnE E size w base A n c xs)(l:KeptF F w w')(p: ∀g,ownB A=some g→ ¬F g):OwnE E size w' base A n c xs:=by
 refine⟨Nat.le_trans h.1 l.size,h.2.1,?_⟩
 rcases h.2.2 with b|⟨k,i,j,b,o,f,m⟩
 ·exact .inl b
 ·refine .inr ⟨k,i,j,b,o,?_,m⟩
  have d:k<w.heap.size:=by
   rcases Nat.lt_or_ge k w.heap.size with h|h
   ·exact h
   ·rw[Array.getElem?_eq_none h]at f;cases f
  injection b with e1 e2 e3
  subst e1
  rw[l.block k d (p k rfl)];exact f
theorem MkB.below {w w':World}{B g b cb:Nat}{S:Sl}{m:Mk}(h:MkB w B g b cb S m)(c:Below w.heap.size w w'):MkB w' B g b cb S m:=
 ⟨h.st.below c h.st.lt,h.own.kept c (yR _),h.ne⟩
theorem aBD {w:World}{B g d n c:Nat}{l:List Int}(h:Own w B (some ⟨d,0,none⟩) n c l)(b:g≠d)(i:Nat)(v:Value):Own (w.setCell ⟨g,i,none⟩ v) B (some ⟨d,0,none⟩) n c l:=
 Kf.Own.keptF h (KeptF.set1 w g i v) (fun j hj e=>b (by injection hj with hj;exact(e.symm.trans hj.symm)))
theorem MkB.depth {w:World}{B g b cb:Nat}{S:Sl}{m:Mk}(h:MkB w B g b cb S m)(v:Nat):MkB (w.setCell ⟨g,142,none⟩ (.int .u64 (v:Int))) B g b cb S {m with depth:=v}:=
 ⟨by have:=h.st.set_ 142 (.int .u64 (v:Int));rw[Mk.set_depth]at this;exact this,aBD h.own h.ne _ _,h.ne⟩
theorem MkB.setN {w:World}{B g b cb:Nat}{S:Sl}{m:Mk}(h:MkB w B g b cb S m)(i k:Nat)(c:i<20)(d:k=119+i)(v:Int):MkB (w.setCell ⟨g,k,none⟩ (.int .u64 v)) B g b cb S {m with h:=setN m.h i v}:=
 ⟨by have:=h.st.set_ k (.int .u64 v);rw[Mk.set_Nk _ _ i k c d]at this;exact this,aBD h.own h.ne _ _,h.ne⟩
theorem MkB.setF {w:World}{B g b cb:Nat}{S:Sl}{m:Mk}(h:MkB w B g b cb S m)(v:Value):MkB (w.setCell ⟨g,145,none⟩ v) B g b cb {S with f:=v} m:=
 ⟨by have:=h.st.set_ 145 v;rw[Mk.set_f]at this;exact this,aBD h.own h.ne _ _,h.ne⟩
theorem MkB.grown {w w':World}{row:Option Nat}{B g b cb:Nat}{S:Sl}{m:Mk}(h:MkB w B g b cb S m)(c:w.grownBy w' row)(f:row≠some g)(d:row≠some b):MkB w' B g b cb S m:=
 ⟨(c.block g h.st.lt (fun e=>f e.symm)).trans h.st,aNB h.own c (fun j hj e=>d (by injection hj with hj;rw[e,←hj])),h.ne⟩
theorem MkB.same {w:World}{B g d cb:Nat}{S:Sl}{m m':Mk}(h:MkB w B g d cb S m)(i:m.C=m'.C)(f:m.h=m'.h)(j:m.depth=m'.depth)(c:m.b=m'.b):MkB w B g d cb S m':=
 ⟨by rw[←Mk.cells_same i f j,←c];exact h.st,by rw[←c];exact h.own,h.ne⟩
theorem aN4 (a b:Nat):(if a<b then((b:Nat):Int)else(a:Int))=((max a b:Nat):Int):=by
 by_cases h:a<b
 ·rw[if_pos h,Nat.max_eq_right (by omega)]
 ·rw[if_neg h,Nat.max_eq_left (by omega)]
end Mf
namespace Mg
open Bytes8 Blk8 Own8 OwnA OwnE Ob Oj Ga Ma Kf Mb Mc Md Me Mf Fa Fb Fc Sg Dc
def look (l:List (Kn×Value))(s:List Int):Option (Kn×Value):=l.find? fun k=>k.1.text==s
theorem aOB {l:List (Kn×Value)}{s:List Int}{k:Nat}(c:k<l.length)(h:l[k].1.text=s)(b: ∀j (hj:j<l.length),j<k→l[j].1.text≠s):look l s=some l[k]:=by
 unfold look
 rw[List.find?_eq_some_iff_getElem]
 exact⟨by simp[h],k,c,rfl,fun j hj=>by simpa using b j (by omega) hj⟩
theorem aKq {l:List (Kn×Value)}{s:List Int}(d: ∀j (b:j<l.length),l[j].1.text≠s):look l s=none:=by
 unfold look
 rw[List.find?_eq_none]
 intro x c
 obtain⟨j,b,rfl⟩:=List.mem_iff_getElem.1 c
 simpa using d j b
structure FieldIn (w:World)(B g bb cb:Nat)(S:Sl)(F:Option Addr)(nf cf:Nat)(l:List (Kn×Value))(m:Mk):Prop where
 st:MkB w B g bb cb S m
 sf:S.f= .slice F nf cf
 row:OwnK w B F nf cf l
 off: ∀k,ownB F=some k→k≠g∧k≠bb
 txt: ∀p∈l,AllB p.1.text
def Cf.file (C:Cf):List Int:=idL C.F
def Mk.sum (m:Mk)(s:List Int):Int:=ofS m.C.keyed (Cf.file m.C) s
def Mk.fslot (m:Mk)(s:List Int):Nat:=(Mk.sum m s%(m.C.fs:Int)).toNat
def Mk.fobj (m:Mk)(s:List Int):List Int:=objB 2 (nums [Mk.sum m s,0,0]++s)
def Mk.named (m:Mk)(ks:List Kn)(tf:Nat)(s:List Int):Mk:=
 {m.object (Mk.fobj m s)with
  b:=hung (m.b++Mk.fobj m s) ks tf m.b.length (Mk.fslot m s)
  depth:=max m.depth (inSlot ks (Mk.fslot m s))
  h:=setN (m.object (Mk.fobj m s)).h 16 (m.h.N 16+1)
  fields:=m.fields++ [⟨s,m.b.length,Mk.fslot m s,0,[]⟩]}
def FieldOld (l:List (Kn×Value))(s:List Int)(w:World)(e:Ending)(w':World):Prop:= ∃k,look l s=some k∧e= .returned (.int .u64 (k.1.at_:Int))∧w=w'
def FieldNew (B g bb nf tf:Nat)(S:Sl)(F:Option Addr)(l:List (Kn×Value))(m:Mk)(s:List Int)(w:World)(e:Ending)(w':World):Prop:=
 look l s=none∧e= .returned (.int .u64 (m.b.length:Nat))∧ ∃bb' cb' F' cf',FieldIn w' B g bb' cb' {S with f:= .slice F' (nf+1) cf'} F' (nf+1) cf' (l++ [(⟨s,m.b.length,Mk.fslot m s,0,[]⟩,.slice none 0 0)]) (Mk.named m (l.map Prod.fst) tf s)∧(bb'=bb∨w.heap.size≤bb')∧(ownB F'=ownB F∨ ∃k,ownB F'=some k∧w.heap.size≤k)∧KeptF (fun k=>k=g∨k=bb∨ownB F=some k) w w'
theorem aF6 (t:Bool)(b l:List Int):0≤ofS t b l∧ofS t b l≤18446744073709551615:=by
 unfold ofS
 split
 ·unfold Hm.sipS Hm.sipEnd
  exact Hm.b64 _ _ _
 ·unfold Hm.lookS
  split
  all_goals exact Hm.b64 _ _ _
attribute [local irreducible] Mk.cells wpList Code.wp
theorem aKr (B g bb cb nf cf tf:Nat)(S:Sl)(F:Option Addr)(l:List (Kn×Value))(m:Mk)(s:List Int)(w:World)(h:FieldIn w B g bb cb S F nf cf l m)(hs:AllB s)(hn:nf≤100000)(hF:IdOk m.C.F)(br:s.length≤700000)(aN:0<m.b.length∧m.b.length≤1000000)(h7:0≤m.h.N 7∧m.h.N 7≤1000000)(hg:B≤g)(bs:0≤m.h.N 16∧m.h.N 16≤1000000)(a7:0<m.C.fs∧m.C.fs≤64)(h4:m.h.N 4=(tf:Int))(bm:tf+16*m.C.fs≤m.b.length)(aW: ∀p∈l,p.1.at_+32≤m.b.length):
 Calls Tryz.prog 132 #[.pointer (some ⟨g,0,none⟩),.string (T s)] w fun e w'=>FieldOld l s w e w'∨FieldNew B g bb nf tf S F l m s w e w':=by
 obtain⟨hm,r,E,ae,aE⟩:=h
 have HM:=yH hm
 have HR:=yH E
 have HL:=yH (aAy E)
 have c5:=hm.st.cell (Mk.get_f _ _)
 rw[show({S with b:=Value.slice (some ⟨bb,0,none⟩) m.b.length cb}:Sl).f= .slice F nf cf from r]at c5
 clear hm E
 have HF:=yH ae
 clear ae
 go_enter Tryz.func132,Tryz.ntmps132
 go_wp2
 go_loopw [5] (fun i wr=> ∃k:Nat,k≤nf∧i= .int .i64 (k:Int)∧Hid (∀j (hj:j<l.length),j<k→l[j].1.text≠s)∧wr=w) (fun i _=>nf-(intOf i).toNat)
 case atStart=>exact⟨0,Nat.zero_le _,rfl,yH fun _ _ h=>absurd h (Nat.not_lt_zero _),rfl⟩
 case round=>
  obtain⟨k,bq,rfl,ac,rfl⟩:=hrel
  by_cases a5:k<nf
  ·have ak:k<l.length:=by rw[HL.out];exact a5
   obtain⟨b,rfl,bp,d0,d1,d2,d3,d4⟩:=aBp HR.out k ak
   clear d2 d3 d4
   have HA:=yH (aE _ (List.getElem_mem ak))
   have J:=yH fun h:l[k].1.text=s=>aOB ak h ac.out
   have aj:=yH fun(h:l[k].1.text≠s) j (hj:j<l.length) (hjk:j<k+1)=>show l[j].1.text≠s from by
    rcases Nat.lt_or_ge j k with h1|h1
    ·exact ac.out j hj h1
    ·have:j=k:=by omega
     subst this
     exact h
   generalize l[k]=q at*
   by_cases he:q.1.text=s
   ·have e1:((T q.1.text).toList==(T s).toList)=true:=by rw[aHj HA.out hs];simp[he]
    have HQ:=yH (J.out he)
    clear he aj J HA
    generalize T q.1.text=Q at*
    generalize T s=R at*
    go_wp2
    go_ret
    exact .inl ⟨q,HQ.out,rfl,rfl⟩
   ·have e1:((T q.1.text).toList==(T s).toList)=false:=by rw[aHj HA.out hs];simp[he]
    have HQ:=yH (aj.out he)
    clear he aj J HA
    generalize T q.1.text=Q at*
    generalize T s=R at*
    go_wp2
    go_roundw
    case rel=>exact⟨k+1,by omega,by go_num,HQ,trivial⟩
    case measure=>simp[intOf];omega
  ·obtain rfl:k=nf:=by omega
   have J:=yH (aKq fun j hj=>ac.out j hj (by rw[←HL.out];exact hj))
   clear ac
   obtain⟨ns,aC⟩: ∃ns,s.length=ns:=⟨_,rfl⟩
   have HS:=yH aC
   clear aC
   have HO:=yH fun(W:World) (c:Nat) (h:Bytes W (some ⟨wr.heap.size,0,none⟩) s)=>aFO m.C.keyed m.C.F _ s ns c W hF h HS.out (by rw[←HS.out];omega)
   go_upto_region 6 with fail
   have HB:=yH HM.out.st
   have pk:=HB.out.cell (Mk.get_keyed _ _)
   have pF:=Mk.file_range HB.out
   obtain⟨cv,mk,I⟩:=aBL s hs
   have ba:=fun w=>(I w).1
   simp only[HS.out]at ba
   have aX:=yH ((I wr.drew).2.1 wr.heap.size rfl)
   have ax:=yH (((Below.refl wr.heap.size wr).drew).trans (I wr.drew).2.2.below)
   have aG:=yH (HB.out.below ax.out HB.out.lt)
   have qk:=aG.out.cell (Mk.get_keyed _ _)
   have qF:=Mk.file_range aG.out
   have aU:=yH I
   clear I
   have aY:=Tryz.underlying37
   have bd:(Tryz.prog.info? 37).map (·.size)=some (fileV m.C).length:=by kernel_rfl
   refine wp_region_noPanic ?_
   refine wp_region_held_drew (S:=fun w':World=>w'.cell? ⟨g,51,none⟩=some (.bool m.C.keyed)∧w'.rangeAt g 0 (fileV m.C)) (by kernel_rfl) (by exact⟨pk,pF⟩) (fun hHeld=>?_)
   refine tq 0 36 rfl (fun W hSw=>by go_simp;try (with_reducible rfl)) ?_
   try simp only[Act.put,sA,sZ,sS]
   refine tq 1 37 rfl (fun W hSw=>by go_simp;try (with_reducible rfl)) ?_
   try simp only[Act.put,sA,sZ,sS]
   refine tq 2 38 rfl (fun W hSw=>by go_simp;try (with_reducible rfl)) ?_
   try simp only[Act.put,sA,sZ,sS]
   refine tq 3 39 rfl (fun W hSw=>by go_simp;try (with_reducible rfl)) ?_
   try simp only[Act.put,sA,sZ,sS]
   refine tq 4 40 rfl (fun W hSw=>by have aO:=hSw.1;go_simp;try (with_reducible rfl)) ?_
   try simp only[Act.put,sA,sZ,sS]
   refine tq 5 41 rfl (fun W hSw=>by go_simp;try (with_reducible rfl)) ?_
   try simp only[Act.put,sA,sZ,sS]
   refine tq 6 42 rfl (fun W hSw=>by go_simp;try (with_reducible rfl)) ?_
   try simp only[Act.put,sA,sZ,sS]
   refine tq 7 43 rfl (fun W hSw=>by go_simp;try (with_reducible rfl)) ?_
   try simp only[Act.put,sA,sZ,sS]
   refine tq 8 44 rfl (fun W hSw=>by go_simp;try (with_reducible rfl)) ?_
   try simp only[Act.put,sA,sZ,sS]
   refine tk (i:=9) (oi:=⟨some 45,_,_,_,_,_⟩) rfl (yieldsIf_load_mid (by rfl) _ _ rfl _ _ rfl _ _ (fun _ h=>h.2) aY rfl bd) ?_
   try simp only[Act.put,sA,sZ,sS]
   refine tq 10 46 rfl (fun W hSw=>by go_simp;try (with_reducible rfl)) ?_
   try simp only[Act.put,sA,sZ,sS]
   refine rd 11 rfl (fun K hK=>?_)
   go_simp
   skip
   try go_wp2_with fail
   refine hK.out _ _ (by exact⟨qk,qF⟩) (fun hHeld=>?_)
   clear hK K
   try simp only[Act.put,sA,sZ,sS]
   refine rd 12 rfl (fun K hK=>?_)
   go_simp
   (refine(HO.out _ _ aX.out).mono ?_);rintro e w2 ⟨rfl,aR⟩;have D:=yH (ax.out.trans (aR.mono ax.out.size));have aF:=yH (HB.out.below D.out HB.out.lt);have rk:=aF.out.cell (Mk.get_keyed _ _);have rF:=Mk.file_range aF.out;clear aR
   try go_wp2_with fail
   refine hK.out _ _ (by exact⟨rk,rF⟩) (fun hHeld=>?_)
   clear hK K
   try simp only[Act.put,sA,sZ,sS]
   refine tq 13 6 rfl (fun W hSw=>by go_simp;try (with_reducible rfl)) ?_
   try simp only[Act.put,sA,sZ,sS]
   refine wpAnyH_done (by kernel_rfl) ?_ _
   refine NoPanic.normal ?_
   have aZ:=yH (MkB.below HM.out D.out)
   have aD:=yH (OwnE.kept HR.out D.out (yR _))
   clear pk pF qk qF rk rF
   clear HO
   have a1:=aF6 m.C.keyed (idL m.C.F) s
   generalize aH:ofS m.C.keyed (idL m.C.F) s=hh at*
   have HH:=yH aH
   clear aH
   have a8:=yH ((aU.out w2).2.1 w2.heap.size rfl)
   have aM:=yH (aU.out w2).2.2.below
   have a0:=yH fun(W:World) (A:Option Addr) (c:Nat) (h:Bytes W A s)=>aFR hh 0 0 A s ns c W h HS.out (by rw[←HS.out];omega) (aPm a1 (by decide) (by decide))
   obtain⟨bi,bk⟩:=a7
   have aJ: ¬(m.C.fs:Int)=0:=by omega
   have bn:padN (24+ns)≤8:=by unfold padN;omega
   have ah:m.b.length+(16+(24+ns)+padN (24+ns))≤4000000:=by have:=HS.out;have:=aN.2;omega
   obtain⟨sl,ag,bh⟩: ∃sl:Nat,hh%(m.C.fs:Int)=(sl:Int)∧sl<m.C.fs:=⟨(hh%(m.C.fs:Int)).toNat,by have:=Int.emod_nonneg hh aJ;omega,by have:=Int.emod_nonneg hh aJ;have:=Int.emod_lt_of_pos hh (show(0:Int)<(m.C.fs:Int)by omega);omega⟩
   go_upto_region 9 with(first
    |(go_at_call 166;(with_reducible refine(a0.out _ _ _ a8.out).mono ?_);rintro e w4 ⟨A4,c4,rfl,aS,aK⟩;have aq:=yH aS;have aa:=yH (aM.out.trans (aK.mono aM.out.size));have a9:=yH (MkB.below aZ.out aa.out);clear aS aK)
    |(go_at_call 79;(refine(aEJ B g bb cb S m A4 _ c4 _ w4 a9.out aq.out.bytes aq.out.2.1 aN.1 ah h7 hg).mono ?_);rintro e w5 ⟨rfl,b5,al,aT,Z,aL⟩;have ay:=yH aT;have aw:=yH aL;have f5:w5.cell? ⟨g,49,none⟩=some (.int .i64 (m.C.fs:Int)):=ay.out.st.cell (Mk.get_fs _ _);clear aT aL)
    |fail)
   have bc:=yH ag
   clear ag
   obtain⟨ys,ai⟩: ∃x,x=objB 2 (nums [hh,0,0]++s):=⟨_,rfl⟩
   rw[←ai]at ay
   have am:(m.object ys).b.length=m.b.length+(16+(24+ns)+padN (24+ns)):=by show(m.b++ys).length=_;rw[List.length_append,ai,aq.out.2.1]
   have a6:(m.object ys).b.length≤4000000:=by rw[am];exact ah
   have aQ:=yH (OwnE.keptF (OwnE.kept aD.out aa.out (yR _)) aw.out (fun j hj e=>(HF.out j hj).elim fun a b=>e.elim a b))
   have n:=yH (MkB.below ay.out ((Below.refl w5.heap.size w5).drew))
   have aA:w5.drew.cell? ⟨g,142,none⟩=some (.int .u64 (m.depth:Int)):=n.out.st.cell (Mk.get_depth _ _)
   have V:w5.drew.cell? ⟨g,145,none⟩=some (.slice F k cf):=(n.out.st.cell (Mk.get_f _ _)).trans (congrArg some r)
   have L:w5.drew.cell? ⟨g,123,none⟩=some (.int .u64 (tf:Int)):=(n.out.st.cell (Mk.get_Nk _ _ 4 123 (by decide) rfl)).trans (congrArg (fun x=>some (Value.int .u64 x)) h4)
   have ap:=yH (aIe g b5 al (m.object ys).b.length tf m.b.length sl k cf _ _ _ F (l.map Prod.fst) B w5.drew n.out.st (Mk.get_b _ _) n.out.own n.out.ne a6 (aIf (OwnE.drew aQ.out)) (by rw[List.length_map,HL.out]) (by omega) (by omega) (by rw[am];omega) (fun q hq=>by obtain⟨p,hp,rfl⟩:=List.mem_map.1 hq;have:=aW p hp;rw[am];omega))
   obtain⟨iS,ao⟩: ∃x,x=inSlot (l.map Prod.fst) sl:=⟨_,rfl⟩
   rw[←ao]at ap
   have HI:=yH ao
   clear ao
   obtain⟨M,hM⟩: ∃M,M=max m.depth iS:=⟨_,rfl⟩
   have ad:=aN4 m.depth iS
   rw[←hM]at ad
   go_cut []from 65 to 86 (fun wx=>Hid (MkB wx B g b5 al S {m.object ys with b:=hung (m.object ys).b (l.map Prod.fst) tf m.b.length sl,depth:=M})∧Hid (KeptF (Two g b5) w5 wx))
   case first=>
    refine wp_region_noPanic ?_
    refine wp_region_held_drew (S:=fun w':World=>w'.cell? ⟨g,145,none⟩=some (.slice F k cf)∧w'.cell? ⟨g,123,none⟩=some (.int .u64 (tf:Int))) (by kernel_rfl) (by exact⟨V,L⟩) (fun hHeld=>?_)
    refine tq 0 65 rfl (fun W hSw=>by go_simp;try (with_reducible rfl)) ?_
    try simp only[Act.put,sA,sZ,sS]
    refine tq 1 66 rfl (fun W hSw=>by go_simp;try (with_reducible rfl)) ?_
    try simp only[Act.put,sA,sZ,sS]
    refine tq 2 67 rfl (fun W hSw=>by go_simp;try (with_reducible rfl)) ?_
    try simp only[Act.put,sA,sZ,sS]
    refine tq 3 68 rfl (fun W hSw=>by go_simp;try (with_reducible rfl)) ?_
    try simp only[Act.put,sA,sZ,sS]
    refine tq 5 70 rfl (fun W hSw=>by go_simp;try (with_reducible rfl)) ?_
    try simp only[Act.put,sA,sZ,sS]
    refine tq 6 71 rfl (fun W hSw=>by go_simp;try (with_reducible rfl)) ?_
    try simp only[Act.put,sA,sZ,sS]
    refine tq 7 72 rfl (fun W hSw=>by go_simp;try (with_reducible rfl)) ?_
    try simp only[Act.put,sA,sZ,sS]
    refine tq 8 73 rfl (fun W hSw=>by go_simp;try (with_reducible rfl)) ?_
    try simp only[Act.put,sA,sZ,sS]
    refine tq 9 74 rfl (fun W hSw=>by have aO:=hSw.1;go_simp;try (with_reducible rfl)) ?_
    try simp only[Act.put,sA,sZ,sS]
    refine tq 10 75 rfl (fun W hSw=>by go_simp;try (with_reducible rfl)) ?_
    try simp only[Act.put,sA,sZ,sS]
    refine tq 11 76 rfl (fun W hSw=>by go_simp;try (with_reducible rfl)) ?_
    try simp only[Act.put,sA,sZ,sS]
    refine tq 12 77 rfl (fun W hSw=>by go_simp;try (with_reducible rfl)) ?_
    try simp only[Act.put,sA,sZ,sS]
    refine tq 13 78 rfl (fun W hSw=>by go_simp;try (with_reducible rfl)) ?_
    try simp only[Act.put,sA,sZ,sS]
    refine tq 14 79 rfl (fun W hSw=>by go_simp;try (with_reducible rfl)) ?_
    try simp only[Act.put,sA,sZ,sS]
    refine tq 15 80 rfl (fun W hSw=>by have aO:=hSw.2;go_simp;try (with_reducible rfl)) ?_
    try simp only[Act.put,sA,sZ,sS]
    refine tq 16 81 rfl (fun W hSw=>by go_simp;try (with_reducible rfl)) ?_
    try simp only[Act.put,sA,sZ,sS]
    refine tq 17 82 rfl (fun W hSw=>by go_simp;try (with_reducible rfl)) ?_
    try simp only[Act.put,sA,sZ,sS]
    refine wpAnyH_ready (rs:=[4,18]) (by kernel_rfl) (by simp) ?_
    refine AllReadyH.cons (o:=⟨some 69,_,_,_,_,_⟩) rfl (fun K hK=>?_) (AllReadyH.cons (o:=⟨some 83,_,_,_,_,_⟩) rfl (fun K hK=>?_) AllReadyH.nil)
    ·go_simp
     skip
     try go_wp2_with fail
     refine hK.out _ _ (by exact⟨V,L⟩) (fun hHeld=>?_)
     clear hK K
     try simp only[Act.put,sA,sZ,sS]
     refine rd 18 rfl (fun K hK=>?_)
     go_simp
     (refine ap.out.mono ?_);rintro e w6 ⟨rfl,t,u⟩;have d:=yH (MkB.put n.out t.2.1 t u);have aB:w6.cell? ⟨g,142,none⟩=some (.int .u64 (m.depth:Int)):=d.out.st.cell (Mk.get_depth _ _);have az:w6.frozen? ⟨g,142,none⟩=false:=d.out.st.frozen 142;have z:w6.cell? ⟨g,145,none⟩=some (.slice F k cf):=(d.out.st.cell (Mk.get_f _ _)).trans (congrArg some r);have y:w6.cell? ⟨g,123,none⟩=some (.int .u64 (tf:Int)):=(d.out.st.cell (Mk.get_Nk _ _ 4 123 (by decide) rfl)).trans (congrArg (fun x=>some (Value.int .u64 x)) h4);have H: ∀v,(w6.setCell ⟨g,142,none⟩ v).cell? ⟨g,145,none⟩=some (.slice F k cf):=fun v=>((d.out.st.set_ 142 v).cell ((List.getElem?_set_ne (by decide)).trans (Mk.get_f _ _))).trans (congrArg some r);have X: ∀v,(w6.setCell ⟨g,142,none⟩ v).cell? ⟨g,123,none⟩=some (.int .u64 (tf:Int)):=fun v=>((d.out.st.set_ 142 v).cell ((List.getElem?_set_ne (by decide)).trans (Mk.get_Nk _ _ 4 123 (by decide) rfl))).trans (congrArg (fun x=>some (Value.int .u64 x)) h4);have au:=yH u;clear t u
     try go_wp2_with fail
     refine hK.out _ _ (by exact⟨z,y⟩) (fun hHeld=>?_)
     clear hK K
     try simp only[Act.put,sA,sZ,sS]
     refine tq 19 84 rfl (fun W hSw=>by go_simp;try (with_reducible rfl)) ?_
     try simp only[Act.put,sA,sZ,sS]
     refine tq 20 85 rfl (fun W hSw=>by go_simp;try (with_reducible rfl)) ?_
     try simp only[Act.put,sA,sZ,sS]
     refine tq 21 86 rfl (fun W hSw=>by go_simp;try (with_reducible rfl)) ?_
     try simp only[Act.put,sA,sZ,sS]
     refine rd 22 rfl (fun K hK=>?_)
     go_simp
     skip
     try go_wp2_with fail
     refine hK.out _ _ (by exact⟨H _,X _⟩) (fun hHeld=>?_)
     clear hK K
     try simp only[Act.put,sA,sZ,sS]
     refine wpAnyH_done (by kernel_rfl) ?_ _
     refine NoPanic.normal ?_
     try go_wp2_with fail
     go_meet
     case rel=>
      try rw[ad]
      try rw[←hM]
      exact⟨yH (MkB.depth d.out M),yH (((KeptF.refl (Two g b5) w5).drew.trans (au.out.kept.mono (fun i h=>Or.inr h)) (fun _ _ h=>h)).setCell (p:=⟨g,142,none⟩) (fun _=>Or.inl rfl) _)⟩
    ·go_simp
     (refine ap.out.mono ?_);rintro e w6 ⟨rfl,t,u⟩;have d:=yH (MkB.put n.out t.2.1 t u);have aB:w6.cell? ⟨g,142,none⟩=some (.int .u64 (m.depth:Int)):=d.out.st.cell (Mk.get_depth _ _);have az:w6.frozen? ⟨g,142,none⟩=false:=d.out.st.frozen 142;have z:w6.cell? ⟨g,145,none⟩=some (.slice F k cf):=(d.out.st.cell (Mk.get_f _ _)).trans (congrArg some r);have y:w6.cell? ⟨g,123,none⟩=some (.int .u64 (tf:Int)):=(d.out.st.cell (Mk.get_Nk _ _ 4 123 (by decide) rfl)).trans (congrArg (fun x=>some (Value.int .u64 x)) h4);have H: ∀v,(w6.setCell ⟨g,142,none⟩ v).cell? ⟨g,145,none⟩=some (.slice F k cf):=fun v=>((d.out.st.set_ 142 v).cell ((List.getElem?_set_ne (by decide)).trans (Mk.get_f _ _))).trans (congrArg some r);have X: ∀v,(w6.setCell ⟨g,142,none⟩ v).cell? ⟨g,123,none⟩=some (.int .u64 (tf:Int)):=fun v=>((d.out.st.set_ 142 v).cell ((List.getElem?_set_ne (by decide)).trans (Mk.get_Nk _ _ 4 123 (by decide) rfl))).trans (congrArg (fun x=>some (Value.int .u64 x)) h4);have au:=yH u;clear t u
     try go_wp2_with fail
     refine hK.out _ _ (by exact⟨z,y⟩) (fun hHeld=>?_)
     clear hK K
     try simp only[Act.put,sA,sZ,sS]
     refine rd 4 rfl (fun K hK=>?_)
     go_simp
     skip
     try go_wp2_with fail
     refine hK.out _ _ (by exact⟨z,y⟩) (fun hHeld=>?_)
     clear hK K
     try simp only[Act.put,sA,sZ,sS]
     refine tq 19 84 rfl (fun W hSw=>by go_simp;try (with_reducible rfl)) ?_
     try simp only[Act.put,sA,sZ,sS]
     refine tq 20 85 rfl (fun W hSw=>by go_simp;try (with_reducible rfl)) ?_
     try simp only[Act.put,sA,sZ,sS]
     refine tq 21 86 rfl (fun W hSw=>by go_simp;try (with_reducible rfl)) ?_
     try simp only[Act.put,sA,sZ,sS]
     refine rd 22 rfl (fun K hK=>?_)
     go_simp
     skip
     try go_wp2_with fail
     refine hK.out _ _ (by exact⟨H _,X _⟩) (fun hHeld=>?_)
     clear hK K
     try simp only[Act.put,sA,sZ,sS]
     refine wpAnyH_done (by kernel_rfl) ?_ _
     refine NoPanic.normal ?_
     try go_wp2_with fail
     go_meet
     case rel=>
      try rw[ad]
      try rw[←hM]
      exact⟨yH (MkB.depth d.out M),yH (((KeptF.refl (Two g b5) w5).drew.trans (au.out.kept.mono (fun i h=>Or.inr h)) (fun _ _ h=>h)).setCell (p:=⟨g,142,none⟩) (fun _=>Or.inl rfl) _)⟩
   case rest=>
    obtain⟨an,aV⟩:=hcut
    clear aA V L ad
    go_upto_region 10 with fail
    have bf:wc.cell? ⟨g,135,none⟩=some (.int .u64 (m.h.N 16)):=an.out.st.cell (Mk.get_Nk _ _ 16 135 (by decide) rfl)
    have zf:wc.frozen? ⟨g,135,none⟩=false:=an.out.st.frozen 135
    have bj:IntKind.u64.wrap (m.h.N 16+1)=m.h.N 16+1:=by rw[IntKind.wrap_u64];omega
    go_region
    have ab:=yH (MkB.below (MkB.setN an.out 16 135 (by decide) rfl (m.h.N 16+1)) (Below.refl _ _).drew)
    have ar:=yH ((aV.out.setCell (p:=⟨g,135,none⟩) (fun _=>Or.inl rfl) (.int .u64 (m.h.N 16+1))).drew)
    generalize (wc.setCell ⟨g,135,none⟩ (.int .u64 (m.h.N 16+1))).drew=w8 at*
    have G: ∀j,ownB F=some j→j≠g∧j≠b5:=fun j hj=>by
     refine⟨(HF.out j hj).1,fun e=>?_⟩
     rcases Z with h|h
     ·exact(HF.out j hj).2 (e.trans h)
     ·have:=(OwnE.ltB (OwnE.kept aD.out aa.out (yR _)) j hj).2
      omega
    have a2:=yH (OwnE.keptF aQ.out ar.out (fun j hj e=>e.elim (G j hj).1 (G j hj).2))
    have bg:w8.cell? ⟨g,145,none⟩=some (.slice F k cf):=(ab.out.st.cell (Mk.get_f _ _)).trans (congrArg some r)
    go_upto_region 12 with(first
     |(at_builtin;(refine aAe aMN rfl (.tmp 102) (.tmp 107) rfl B F k cf (kf l) rfl (OwnE.alloc a2.out _) ⟨w8.heap.size,0,none⟩ 1 1 (knC ⟨s,m.b.length,sl,0,[]⟩ (.slice none 0 0)) rfl rfl (Blk.news (Blk.new w8 _ 173)) (by simp[knC,Value.oneCell']) (by omega) (by omega) (by unfold maxLen;omega) ?_);intro F9 c9 w9 aI Y af;have a3:=yH aI;have av:=yH (MkB.grown (MkB.below ab.out ((Below.refl _ _).alloc (yR _) _)) Y (fun e=>(G _ e).1 rfl) (fun e=>(G _ e).2 rfl));have a4:=yH (KeptF.grow _ Y);have x9:w9.cell? ⟨g,145,none⟩=some (.slice F k cf):=(av.out.st.cell (Mk.get_f _ _)).trans (congrArg some r);have z9:w9.frozen? ⟨g,145,none⟩=false:=av.out.st.frozen 145;clear aI Y)
     |fail)
    go_wp2
    go_ret
    have e1:ys=Mk.fobj m s:=by rw[ai,←HH.out];rfl
    have e2:sl=Mk.fslot m s:=by
     have:=bc.out
     rw[←HH.out]at this
     unfold Mk.fslot Mk.sum Cf.file
     rw[this]
     exact(Int.toNat_natCast sl).symm
    have aP: ∀j,ownB F9=some j→j≠g∧j≠b5:=fun j hj=>by
     rcases af with h|h
     ·exact G j (h▸hj)
     ·rw[h]at hj
      injection hj with hj
      have h1:=ab.out.st.lt
      have h2:=(aEI ab.out.own).2
      simp at hj
      omega
    have bl:=D.out.size
    have bo:=aa.out.size
    refine .inr ⟨J.out,rfl,b5,al,F9,c9,⟨?_,rfl,?_,aP,?_⟩,?_,?_,?_⟩
    ·refine MkB.same (MkB.setF av.out (.slice F9 (k+1) c9)) rfl ?_ ?_ ?_
     ·show setN (m.object ys).h 16 _=setN (m.object (Mk.fobj m s)).h 16 _
      rw[e1]
     ·show M=max m.depth (inSlot (l.map Prod.fst) (Mk.fslot m s))
      rw[hM,HI.out,e2]
     ·show hung (m.b++ys) (l.map Prod.fst) tf m.b.length sl=hung (m.b++Mk.fobj m s) (l.map Prod.fst) tf m.b.length (Mk.fslot m s)
      rw[e1,e2]
    ·rw[←e2]
     unfold OwnK
     rw[aKp]
     exact OwnE.keptF a3.out (KeptF.set1 w9 g 145 _) (fun j hj e=>(aP j hj).1 e)
    ·intro p hp
     rcases List.mem_append.1 hp with h|h
     ·exact aE p h
     ·rw[List.mem_singleton.1 h]
      exact hs
    ·rcases Z with h|h
     ·exact .inl h
     ·exact .inr (by omega)
    ·rcases af with h|h
     ·exact .inl h
     ·refine .inr ⟨_,h,?_⟩
      have h1:=aw.out.size
      have h2:=ar.out.size
      simp
      omega
    ·have K0:=KeptF.of_below (F:=fun j=>j=g∨j=bb∨ownB F=some j) (D.out.trans (aa.out.mono D.out.size))
     have K1:=K0.trans aw.out (fun i hi h=>h.elim Or.inl (fun e=>Or.inr (Or.inl e)))
     have K2:=K1.trans ar.out (fun i hi h=>by
      rcases h with h|h
      ·exact .inl h
      ·rcases Z with h5|h5
       ·exact .inr (.inl (h.trans h5))
       ·omega)
     have K3:=(K2.alloc _).trans a4.out (fun i hi h=>Or.inr (Or.inr h))
     exact K3.setCell (p:=⟨g,145,none⟩) (fun _=>Or.inl rfl) _
end Mg
namespace Na
open Bytes8 Blk8 Own8 OwnA OwnE LeA Ob Od Ga Ma Kf Mb Mc Md Mf Mg Fb Dc
structure Pl where
 bb:Nat
 cb:Nat
 D:Option Addr
 nd:Nat
 cd:Nat
 F:Option Addr
 nf:Nat
 cf:Nat
 M:Value
 dl:List (Kn×Value)
 fl:List (Kn×Value)
def Pl.S (p:Pl):Sl:=⟨.bool false,.slice p.D p.nd p.cd,.slice p.F p.nf p.cf,p.M⟩
def Pl.foot (p:Pl)(g:Nat)(k:Nat):Prop:=k=g∨k=p.bb∨ownB p.D=some k∨ownB p.F=some k
def Pl.away (p:Pl)(B g:Nat)(k:Nat):Prop:=p.foot g k∨k<B
def Arr (w:World)(Ft:Nat→Prop)(v:Value)(l:List Nat):Prop:=
 ∃A n c,v= .slice A n c∧l.length=n∧ ∀i (h:i<l.length),∃b,A=some ⟨b,0,none⟩∧b<w.heap.size∧ ¬Ft b∧w.cell? ⟨b,i,none⟩=some (.int .u64 (l[i]:Int))
theorem Arr.nil (w:World)(Ft:Nat→Prop):Arr w Ft (.slice none 0 0) []:=⟨none,0,0,rfl,rfl,fun i h=>absurd h (by simp)⟩
theorem Arr.kept {w w':World}{Ft Ft' G:Nat→Prop}{v:Value}{l:List Nat}(h:Arr w Ft v l)(g:KeptF G w w')(m: ∀b,b<w.heap.size→ ¬Ft b→ ¬G b)(k: ∀b,b<w.heap.size→ ¬Ft b→ ¬Ft' b):Arr w' Ft' v l:=by
 obtain⟨A,n,c,rfl,o,h⟩:=h
 refine⟨A,n,c,rfl,o,fun i hi=>?_⟩
 obtain⟨b,e,d,f,j⟩:=h i hi
 exact⟨b,e,yL d g.size,k b d f,(World.cell?_of_block (a:=⟨b,i,none⟩) (g.block b d (m b d f))).trans j⟩
structure At (w:World)(B g:Nat)(p:Pl)(m:Mk):Prop where
 st:MkB w B g p.bb p.cb p.S m
 dr:OwnK w B p.D p.nd p.cd p.dl
 fr:OwnK w B p.F p.nf p.cf p.fl
 dm:p.dl.map Prod.fst=m.datas
 fm:p.fl.map Prod.fst=m.fields
 da: ∀q∈p.dl,Arr w (p.away B g) q.2 q.1.arrays
 ma:Arr w (p.away B g) p.M m.main
 dg: ∀k,ownB p.D=some k→k≠g∧k≠p.bb
 fg: ∀k,ownB p.F=some k→k≠g∧k≠p.bb
 df: ∀k,ownB p.D=some k→ownB p.F≠some k
 gB:B≤g
 fo: ∀q∈p.fl,q.2= .slice none 0 0
theorem At.lt {w:World}{B g:Nat}{p:Pl}{m:Mk}(h:At w B g p m): ∀k,p.foot g k→B≤k∧k<w.heap.size:=by
 rintro k (rfl|rfl|b|b)
 ·exact⟨h.gB,h.st.st.lt⟩
 ·exact aEI h.st.own
 ·exact OwnE.ltB h.dr k b
 ·exact OwnE.ltB h.fr k b
theorem At.off {w w':World}{B g:Nat}{p:Pl}{m:Mk}{G:Nat→Prop}(h:At w B g p m)(hk:KeptF G w w')(d: ∀k,k<w.heap.size→ ¬G k):At w' B g p m:=
 have hs:=h.lt
 have c: ∀k,p.foot g k→ ¬G k:=fun k hf=>d k (hs k hf).2
 {st:=⟨Kf.Blk.keptF h.st.st hk (c _ (.inl rfl)),Kf.Own.keptF h.st.own hk (fun k hk'=>c k (.inr (.inl (by injection hk' with e;exact e.symm)))),h.st.ne⟩
  dr:=OwnE.keptF h.dr hk (fun k e=>c k (.inr (.inr (.inl e))))
  fr:=OwnE.keptF h.fr hk (fun k e=>c k (.inr (.inr (.inr e))))
  dm:=h.dm,fm:=h.fm
  da:=fun q hq=>(h.da q hq).kept hk (fun b hb _=>d b hb) (fun _ _ h=>h)
  ma:=h.ma.kept hk (fun b hb _=>d b hb) (fun _ _ h=>h)
  dg:=h.dg,fg:=h.fg,df:=h.df,gB:=h.gB,fo:=h.fo}
theorem At.below {w w':World}{B g:Nat}{p:Pl}{m:Mk}(h:At w B g p m)(b:Below w.heap.size w w'):At w' B g p m:=h.off (KeptF.of_below (F:=None') b) (fun _ _ h=>h)
theorem At.turn {w w':World}{B g:Nat}{p p':Pl}{m m':Mk}(h:At w B g p m)(d:KeptF (p.foot g) w w')(f: ∀k,p'.foot g k→p.foot g k∨w.heap.size≤k)
 (st:MkB w' B g p'.bb p'.cb p'.S m')(dr:OwnK w' B p'.D p'.nd p'.cd p'.dl)(fr:OwnK w' B p'.F p'.nf p'.cf p'.fl)(dm:p'.dl.map Prod.fst=m'.datas)(fm:p'.fl.map Prod.fst=m'.fields)
 (da: ∀q∈p'.dl,q∈p.dl∨Arr w' (p'.away B g) q.2 q.1.arrays)(ma:(p'.M=p.M∧m'.main=m.main)∨Arr w' (p'.away B g) p'.M m'.main)
 (dg: ∀k,ownB p'.D=some k→k≠g∧k≠p'.bb)(fg: ∀k,ownB p'.F=some k→k≠g∧k≠p'.bb)(df: ∀k,ownB p'.D=some k→ownB p'.F≠some k)(fo: ∀q∈p'.fl,q∈p.fl∨q.2= .slice none 0 0):At w' B g p' m':=
 have c: ∀b,b<w.heap.size→ ¬p.away B g b→ ¬p'.away B g b:=fun b hb hnf h1=>h1.elim (fun h1=>(f b h1).elim (fun h=>hnf (.inl h)) (fun h2=>absurd hb (by omega))) (fun h=>hnf (.inr h))
 {st:=st,dr:=dr,fr:=fr,dm:=dm,fm:=fm,dg:=dg,fg:=fg,df:=df,gB:=h.gB
  fo:=fun q hq=>(fo q hq).elim (h.fo q) id
  da:=fun q hq=>(da q hq).elim (fun h1=>(h.da q h1).kept d (fun _ _ h h2=>h (.inl h2)) c) id
  ma:=ma.elim (fun h1=>by rw[h1.1,h1.2];exact h.ma.kept d (fun _ _ h h2=>h (.inl h2)) c) id}
def Mk.tf (m:Mk):Nat:=304+16*m.C.ds
def Mk.dslot (m:Mk)(s:List Int):Nat:=(Mk.sum m s%(m.C.ds:Int)).toNat
def Mk.dobj (m:Mk)(s:List Int):List Int:=objB 1 (nums [Mk.sum m s,0,0,0,0,0]++s)
def findK (l:List Kn)(s:List Int):Option Kn:=l.find? fun k=>k.text==s
def Mk.put1 (m:Mk)(s:List Int):Mk:=
 {m.object (Mk.dobj m s)with
  b:=hung (m.b++Mk.dobj m s) m.datas 288 m.b.length (Mk.dslot m s)
  h:=setN (setN (m.object (Mk.dobj m s)).h 19 (max (m.h.N 19) (inSlot m.datas (Mk.dslot m s):Nat))) 15 (m.h.N 15+1)
  datas:=m.datas++ [⟨s,m.b.length,Mk.dslot m s,0,[]⟩]}
def Mk.fieldOf (m:Mk)(s:List Int):Nat×Mk:=match findK m.fields s with
 |some k=>(k.at_,m)
 |none=>(m.b.length,Mk.named m m.fields (Mk.tf m) s)
def Mk.put2 (m:Mk)(at_ k:Nat):Mk:={m with b:=put8 (put8 m.b (at_+32) (u8 m.b (k+32))) (k+32) at_}
def Mk.dataNew (m:Mk)(nm s:List Int):Mk:=Mk.put2 (Mk.fieldOf (Mk.put1 m s) nm).2 m.b.length (Mk.fieldOf (Mk.put1 m s) nm).1
def idxK (l:List Kn)(s:List Int):Option Nat:=l.findIdx? fun k=>k.text==s
def Mk.dataOf (m:Mk)(nm s:List Int):Nat×Mk:=match idxK m.datas s with
 |some i=>(i,m)
 |none=>(m.datas.length,Mk.dataNew m nm s)
structure Chain (L:Nat)(arr:List Nat)(n:Nat):Prop where
 le:n≤rooms arr.length
 ge:0<arr.length→rooms (arr.length-1)≤n
 fits: ∀i (h:i<arr.length),arr[i]+24+8*roomN i≤L
theorem Chain.mono {L b:Nat}{arr:List Nat}{n:Nat}(h:Chain L arr n)(c:L≤b):Chain b arr n:=⟨h.le,h.ge,fun i hi=>Nat.le_trans (h.fits i hi) c⟩
theorem Chain.nil (L:Nat):Chain L [] 0:=⟨Nat.zero_le _,fun h=>absurd h (by simp),fun i h=>absurd h (by simp)⟩
structure Inv (m:Mk):Prop where
 F:IdOk m.C.F
 ds:0<m.C.ds∧m.C.ds≤64
 fs:0<m.C.fs∧m.C.fs≤64
 n2:m.h.N 2=((288:Nat):Int)
 n4:m.h.N 4=(Mk.tf m:Int)
 len:304+16*(m.C.ds+m.C.fs)≤m.b.length
 l8:m.b.length%8=0
 dat: ∀k∈m.datas,k.at_+64≤m.b.length∧AllB k.text∧k.text.length≤400∧Chain m.b.length k.arrays (k.count-1)∧k.count≤m.b.length
 fld: ∀k∈m.fields,k.at_+40≤m.b.length∧AllB k.text
 mn: ∃n:Nat,m.h.N 8=(n:Int)∧Chain m.b.length m.main n∧n≤m.b.length
 n7:0≤m.h.N 7∧m.h.N 7≤m.b.length
 n15:0≤m.h.N 15∧m.h.N 15≤m.b.length
 n16:0≤m.h.N 16∧m.h.N 16≤m.b.length
 n18:0≤m.h.N 18∧m.h.N 18≤m.b.length
 n19:0≤m.h.N 19∧m.h.N 19≤m.b.length
 dep:m.depth≤m.b.length
 dn:m.datas.length≤m.b.length
 fn:m.fields.length≤m.b.length
end Na
end Go.Proofs.YtlelnfokffflnaaGreat
