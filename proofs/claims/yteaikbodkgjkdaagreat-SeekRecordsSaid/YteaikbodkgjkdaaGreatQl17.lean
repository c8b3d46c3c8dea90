/-
  Texts beneath.
-/
import Derived.Test.YteaikbodkgjkdaaGreatQl16
set_option linter.unusedVariables false
set_option linter.unusedSimpArgs false
set_option maxRecDepth 100000
set_option maxHeartbeats 4000000
open Go.ChangeShapes Go.WideShapes Go.ChangeAt Go.RowKit
namespace Go.Proofs.YteaikbodkgjkdaaGreat
namespace Mg
open Bytes8 Blk8 Own8 OwnA OwnE Ob Oj Ga Ma Kf Mb Mc Md Me Mf Fa Fb Fc Sg Dc
def look (l:List (Kn×Value))(s:List Int):Option (Kn×Value):=l.find? fun k=>k.1.text==s
theorem aOB {l:List (Kn×Value)}{s:List Int}{k:Nat}(a:k<l.length)(h:l[k].1.text=s)(b: ∀j (hj:j<l.length),j<k→l[j].1.text≠s):look l s=some l[k]:=by
 unfold look
 rw[List.find?_eq_some_iff_getElem]
 exact⟨by simp[h],k,a,rfl,fun j hj=>by simpa using b j (by omega) hj⟩
theorem aKp {l:List (Kn×Value)}{s:List Int}(b: ∀j (a:j<l.length),l[j].1.text≠s):look l s=none:=by
 unfold look
 rw[List.find?_eq_none]
 intro x c
 obtain⟨j,a,rfl⟩:=List.mem_iff_getElem.1 c
 simpa using b j a
structure FieldIn (w:World)(B g bb cb:Nat)(S:Sl)(F:Option Addr)(nf cf:Nat)(l:List (Kn×Value))(m:Mk):Prop where
 st:MkB w B g bb cb S m
 sf:S.f= .slice F nf cf
 row:OwnK w B F nf cf l
 off: ∀k,ownB F=some k→k≠g∧k≠bb
 txt: ∀p∈l,AllB p.1.text
def Cf.file (C:Cf):List Int:=idL C.F
def Mk.sum (m:Mk)(s:List Int):Int:=ofS m.C.keyed (Cf.file m.C) s
def Mk.fslot (m:Mk)(s:List Int):Nat:=(Mk.sum m s%(m.C.fs:Int)).toNat
def Mk.fobj (m:Mk)(s:List Int):List Int:=objB 2 (nums [Mk.sum m s,0,0]++s)
def Mk.named (m:Mk)(ks:List Kn)(tf:Nat)(s:List Int):Mk:=
 {m.object (Mk.fobj m s)with
  b:=hung (m.b++Mk.fobj m s) ks tf m.b.length (Mk.fslot m s)
  depth:=max m.depth (inSlot ks (Mk.fslot m s))
  h:=setN (m.object (Mk.fobj m s)).h 16 (m.h.N 16+1)
  fields:=m.fields++ [⟨s,m.b.length,Mk.fslot m s,0,[]⟩]}
def FieldOld (l:List (Kn×Value))(s:List Int)(w:World)(e:Ending)(w':World):Prop:= ∃k,look l s=some k∧e= .returned (.int .u64 (k.1.at_:Int))∧w=w'
def FieldNew (B g bb nf tf:Nat)(S:Sl)(F:Option Addr)(l:List (Kn×Value))(m:Mk)(s:List Int)(w:World)(e:Ending)(w':World):Prop:=
 look l s=none∧e= .returned (.int .u64 (m.b.length:Nat))∧ ∃bb' cb' F' cf',FieldIn w' B g bb' cb' {S with f:= .slice F' (nf+1) cf'} F' (nf+1) cf' (l++ [(⟨s,m.b.length,Mk.fslot m s,0,[]⟩,.slice none 0 0)]) (Mk.named m (l.map Prod.fst) tf s)∧(bb'=bb∨w.heap.size≤bb')∧(ownB F'=ownB F∨ ∃k,ownB F'=some k∧w.heap.size≤k)∧KeptF (fun k=>k=g∨k=bb∨ownB F=some k) w w'
theorem aF5 (t:Bool)(a l:List Int):0≤ofS t a l∧ofS t a l≤18446744073709551615:=by
 unfold ofS
 split
 ·unfold Hm.sipS Hm.sipEnd
  exact Hm.b64 _ _ _
 ·unfold Hm.lookS
  split
  all_goals exact Hm.b64 _ _ _
attribute [local irreducible] Mk.cells wpList Code.wp
theorem aKq (B g bb cb nf cf tf:Nat)(S:Sl)(F:Option Addr)(l:List (Kn×Value))(m:Mk)(s:List Int)(w:World)(h:FieldIn w B g bb cb S F nf cf l m)(hs:AllB s)(hn:nf≤100000)(hF:IdOk m.C.F)(bm:s.length≤700000)(aF:0<m.b.length∧m.b.length≤1000000)(h7:0≤m.h.N 7∧m.h.N 7≤1000000)(hg:B≤g)(bl:0≤m.h.N 16∧m.h.N 16≤1000000)(a0:0<m.C.fs∧m.C.fs≤64)(h4:m.h.N 4=(tf:Int))(bi:tf+16*m.C.fs≤m.b.length)(ba: ∀p∈l,p.1.at_+32≤m.b.length):
 Calls Tryz.prog 111 #[.pointer (some ⟨g,0,none⟩),.string (T s)] w fun e w'=>FieldOld l s w e w'∨FieldNew B g bb nf tf S F l m s w e w':=by
 obtain⟨hm,r,X,ae,az⟩:=h
 have HM:=yH hm
 have HR:=yH X
 have HL:=yH (aAy X)
 have c5:=hm.st.cell (Mk.get_f _ _)
 rw[show({S with b:=Value.slice (some ⟨bb,0,none⟩) m.b.length cb}:Sl).f= .slice F nf cf from r]at c5
 clear hm X
 have HF:=yH ae
 clear ae
 go_enter Tryz.func111,Tryz.ntmps111
 go_wp2
 go_loopw [5] (fun i wr=> ∃k:Nat,k≤nf∧i= .int .i64 (k:Int)∧Hid (∀j (hj:j<l.length),j<k→l[j].1.text≠s)∧wr=w) (fun i _=>nf-(intOf i).toNat)
 case atStart=>exact⟨0,Nat.zero_le _,rfl,yH fun _ _ h=>absurd h (Nat.not_lt_zero _),rfl⟩
 case round=>
  obtain⟨k,bj,rfl,ab,rfl⟩:=hrel
  by_cases aY:k<nf
  ·have ak:k<l.length:=by rw[HL.out];exact aY
   obtain⟨b,rfl,bp,d0,d1,d2,d3,d4⟩:=aBp HR.out k ak
   clear d2 d3 d4
   have HA:=yH (az _ (List.getElem_mem ak))
   have L:=yH fun h:l[k].1.text=s=>aOB ak h ab.out
   have aj:=yH fun(h:l[k].1.text≠s) j (hj:j<l.length) (hjk:j<k+1)=>show l[j].1.text≠s from by
    rcases Nat.lt_or_ge j k with h1|h1
    ·exact ab.out j hj h1
    ·have:j=k:=by omega
     subst this
     exact h
   generalize l[k]=q at*
   by_cases he:q.1.text=s
   ·have e1:((T q.1.text).toList==(T s).toList)=true:=by rw[aHg HA.out hs];simp[he]
    have HQ:=yH (L.out he)
    clear he aj L HA
    generalize T q.1.text=Q at*
    generalize T s=R at*
    go_wp2
    go_ret
    exact .inl ⟨q,HQ.out,rfl,rfl⟩
   ·have e1:((T q.1.text).toList==(T s).toList)=false:=by rw[aHg HA.out hs];simp[he]
    have HQ:=yH (aj.out he)
    clear he aj L HA
    generalize T q.1.text=Q at*
    generalize T s=R at*
    go_wp2
    go_roundw
    case rel=>exact⟨k+1,by omega,by go_num,HQ,trivial⟩
    case measure=>simp[intOf];omega
  ·obtain rfl:k=nf:=by omega
   have L:=yH (aKp fun j hj=>ab.out j hj (by rw[←HL.out];exact hj))
   clear ab
   obtain⟨ns,aS⟩: ∃ns,s.length=ns:=⟨_,rfl⟩
   have HS:=yH aS
   clear aS
   have HO:=yH fun(W:World) (c:Nat) (h:Bytes W (some ⟨wr.heap.size,0,none⟩) s)=>aFO m.C.keyed m.C.F _ s ns c W hF h HS.out (by rw[←HS.out];omega)
   go_upto_region 6 with fail
   have HB:=yH HM.out.st
   have pk:=HB.out.cell (Mk.get_keyed _ _)
   have pF:=Mk.file_range HB.out
   obtain⟨cv,mk,G⟩:=aBL s hs
   have a2:=fun w=>(G w).1
   simp only[HS.out]at a2
   have a7:=yH ((G wr.drew).2.1 wr.heap.size rfl)
   have ay:=yH (((yB wr.heap.size wr).drew).trans (G wr.drew).2.2.below)
   have aM:=yH (HB.out.below ay.out HB.out.lt)
   have qk:=aM.out.cell (Mk.get_keyed _ _)
   have qF:=Mk.file_range aM.out
   have aG:=yH G
   clear G
   have aZ:=Tryz.underlying61
   have aW:(Tryz.prog.info? 61).map (·.size)=some (fileV m.C).length:=by kernel_rfl
   refine wp_region_noPanic ?_
   refine wp_region_held_drew (S:=fun w':World=>w'.cell? ⟨g,51,none⟩=some (.bool m.C.keyed)∧w'.rangeAt g 0 (fileV m.C)) (by kernel_rfl) (by exact⟨pk,pF⟩) (fun hHeld=>?_)
   refine tq 0 36 rfl (fun W hSw=>by go_simp;try (with_reducible rfl)) ?_
   try simp only[Act.put,sA,sZ,sS]
   refine tq 1 37 rfl (fun W hSw=>by go_simp;try (with_reducible rfl)) ?_
   try simp only[Act.put,sA,sZ,sS]
   refine tq 2 38 rfl (fun W hSw=>by go_simp;try (with_reducible rfl)) ?_
   try simp only[Act.put,sA,sZ,sS]
   refine tq 3 39 rfl (fun W hSw=>by go_simp;try (with_reducible rfl)) ?_
   try simp only[Act.put,sA,sZ,sS]
   refine tq 4 40 rfl (fun W hSw=>by have aK:=hSw.1;go_simp;try (with_reducible rfl)) ?_
   try simp only[Act.put,sA,sZ,sS]
   refine tq 5 41 rfl (fun W hSw=>by go_simp;try (with_reducible rfl)) ?_
   try simp only[Act.put,sA,sZ,sS]
   refine tq 6 42 rfl (fun W hSw=>by go_simp;try (with_reducible rfl)) ?_
   try simp only[Act.put,sA,sZ,sS]
   refine tq 7 43 rfl (fun W hSw=>by go_simp;try (with_reducible rfl)) ?_
   try simp only[Act.put,sA,sZ,sS]
   refine tq 8 44 rfl (fun W hSw=>by go_simp;try (with_reducible rfl)) ?_
   try simp only[Act.put,sA,sZ,sS]
   refine tk (i:=9) (oi:=⟨some 45,_,_,_,_,_⟩) rfl (yieldsIf_load_mid (by rfl) _ _ rfl _ _ rfl _ _ (fun _ h=>h.2) aZ rfl aW) ?_
   try simp only[Act.put,sA,sZ,sS]
   refine tq 10 46 rfl (fun W hSw=>by go_simp;try (with_reducible rfl)) ?_
   try simp only[Act.put,sA,sZ,sS]
   refine rd 11 rfl (fun K hK=>?_)
   go_simp
   skip
   try go_wp2_with fail
   refine hK.out _ _ (by exact⟨qk,qF⟩) (fun hHeld=>?_)
   clear hK K
   try simp only[Act.put,sA,sZ,sS]
   refine rd 12 rfl (fun K hK=>?_)
   go_simp
   (refine(HO.out _ _ a7.out).mono ?_);rintro e w2 ⟨rfl,aH⟩;have D:=yH (ay.out.trans (aH.mono ay.out.size));have aB:=yH (HB.out.below D.out HB.out.lt);have rk:=aB.out.cell (Mk.get_keyed _ _);have rF:=Mk.file_range aB.out;clear aH
   try go_wp2_with fail
   refine hK.out _ _ (by exact⟨rk,rF⟩) (fun hHeld=>?_)
   clear hK K
   try simp only[Act.put,sA,sZ,sS]
   refine tq 13 6 rfl (fun W hSw=>by go_simp;try (with_reducible rfl)) ?_
   try simp only[Act.put,sA,sZ,sS]
   refine wpAnyH_done (by kernel_rfl) ?_ _
   refine NoPanic.normal ?_
   have a8:=yH (MkB.below HM.out D.out)
   have aE:=yH (OwnE.kept HR.out D.out (yR _))
   clear pk pF qk qF rk rF
   clear HO
   have a1:=aF5 m.C.keyed (idL m.C.F) s
   generalize aA:ofS m.C.keyed (idL m.C.F) s=hh at*
   have HH:=yH aA
   clear aA
   have a4:=yH ((aG.out w2).2.1 w2.heap.size rfl)
   have aR:=yH (aG.out w2).2.2.below
   have a5:=yH fun(W:World) (A:Option Addr) (c:Nat) (h:Bytes W A s)=>aFR hh 0 0 A s ns c W h HS.out (by rw[←HS.out];omega) (aPm a1 (by decide) (by decide))
   obtain⟨br,bs⟩:=a0
   have aI: ¬(m.C.fs:Int)=0:=by omega
   have bn:padN (24+ns)≤8:=by unfold padN;omega
   have ah:m.b.length+(16+(24+ns)+padN (24+ns))≤4000000:=by have:=HS.out;have:=aF.2;omega
   obtain⟨sl,ag,bg⟩: ∃sl:Nat,hh%(m.C.fs:Int)=(sl:Int)∧sl<m.C.fs:=⟨(hh%(m.C.fs:Int)).toNat,by have:=Int.emod_nonneg hh aI;omega,by have:=Int.emod_nonneg hh aI;have:=Int.emod_lt_of_pos hh (show(0:Int)<(m.C.fs:Int)by omega);omega⟩
   go_upto_region 9 with(first
    |(go_at_call 142;(with_reducible refine(a5.out _ _ _ a4.out).mono ?_);rintro e w4 ⟨A4,c4,rfl,aQ,aU⟩;have am:=yH aQ;have J:=yH (aR.out.trans (aU.mono aR.out.size));have a3:=yH (MkB.below a8.out J.out);clear aQ aU)
    |(go_at_call 68;(refine(aEJ B g bb cb S m A4 _ c4 _ w4 a3.out am.out.bytes am.out.2.1 aF.1 ah h7 hg).mono ?_);rintro e w5 ⟨rfl,b5,aq,aC,V,aJ⟩;have ai:=yH aC;have au:=yH aJ;have f5:w5.cell? ⟨g,49,none⟩=some (.int .i64 (m.C.fs:Int)):=ai.out.st.cell (Mk.get_fs _ _);clear aC aJ)
    |fail)
   have bc:=yH ag
   clear ag
   obtain⟨ys,ar⟩: ∃x,x=objB 2 (nums [hh,0,0]++s):=⟨_,rfl⟩
   rw[←ar]at ai
   have aw:(m.object ys).b.length=m.b.length+(16+(24+ns)+padN (24+ns)):=by show(m.b++ys).length=_;rw[yA,ar,am.out.2.1]
   have aX:(m.object ys).b.length≤4000000:=by rw[aw];exact ah
   have aP:=yH (OwnE.keptF (OwnE.kept aE.out J.out (yR _)) au.out (fun j hj e=>(HF.out j hj).elim fun a b=>e.elim a b))
   have n:=yH (MkB.below ai.out ((yB w5.heap.size w5).drew))
   have aT:w5.drew.cell? ⟨g,142,none⟩=some (.int .u64 (m.depth:Int)):=n.out.st.cell (Mk.get_depth _ _)
   have I:w5.drew.cell? ⟨g,145,none⟩=some (.slice F k cf):=(n.out.st.cell (Mk.get_f _ _)).trans (congrArg some r)
   have Z:w5.drew.cell? ⟨g,123,none⟩=some (.int .u64 (tf:Int)):=(n.out.st.cell (Mk.get_Nk _ _ 4 123 (by decide) rfl)).trans (congrArg (fun x=>some (Value.int .u64 x)) h4)
   have av:=yH (aIe g b5 aq (m.object ys).b.length tf m.b.length sl k cf _ _ _ F (l.map Prod.fst) B w5.drew n.out.st (Mk.get_b _ _) n.out.own n.out.ne aX (aIf (OwnE.drew aP.out)) (by rw[List.length_map,HL.out]) (by omega) (by omega) (by rw[aw];omega) (fun q hq=>by obtain⟨p,hp,rfl⟩:=List.mem_map.1 hq;have:=ba p hp;rw[aw];omega))
   obtain⟨iS,an⟩: ∃x,x=inSlot (l.map Prod.fst) sl:=⟨_,rfl⟩
   rw[←an]at av
   have HI:=yH an
   clear an
   obtain⟨M,hM⟩: ∃M,M=max m.depth iS:=⟨_,rfl⟩
   have ac:=aN4 m.depth iS
   rw[←hM]at ac
   go_cut []from 65 to 86 (fun wx=>Hid (MkB wx B g b5 aq S {m.object ys with b:=hung (m.object ys).b (l.map Prod.fst) tf m.b.length sl,depth:=M})∧Hid (KeptF (Two g b5) w5 wx))
   case first=>
    refine wp_region_noPanic ?_
    refine wp_region_held_drew (S:=fun w':World=>w'.cell? ⟨g,145,none⟩=some (.slice F k cf)∧w'.cell? ⟨g,123,none⟩=some (.int .u64 (tf:Int))) (by kernel_rfl) (by exact⟨I,Z⟩) (fun hHeld=>?_)
    refine tq 0 65 rfl (fun W hSw=>by go_simp;try (with_reducible rfl)) ?_
    try simp only[Act.put,sA,sZ,sS]
    refine tq 1 66 rfl (fun W hSw=>by go_simp;try (with_reducible rfl)) ?_
    try simp only[Act.put,sA,sZ,sS]
    refine tq 2 67 rfl (fun W hSw=>by go_simp;try (with_reducible rfl)) ?_
    try simp only[Act.put,sA,sZ,sS]
    refine tq 3 68 rfl (fun W hSw=>by go_simp;try (with_reducible rfl)) ?_
    try simp only[Act.put,sA,sZ,sS]
    refine tq 5 70 rfl (fun W hSw=>by go_simp;try (with_reducible rfl)) ?_
    try simp only[Act.put,sA,sZ,sS]
    refine tq 6 71 rfl (fun W hSw=>by go_simp;try (with_reducible rfl)) ?_
    try simp only[Act.put,sA,sZ,sS]
    refine tq 7 72 rfl (fun W hSw=>by go_simp;try (with_reducible rfl)) ?_
    try simp only[Act.put,sA,sZ,sS]
    refine tq 8 73 rfl (fun W hSw=>by go_simp;try (with_reducible rfl)) ?_
    try simp only[Act.put,sA,sZ,sS]
    refine tq 9 74 rfl (fun W hSw=>by have aK:=hSw.1;go_simp;try (with_reducible rfl)) ?_
    try simp only[Act.put,sA,sZ,sS]
    refine tq 10 75 rfl (fun W hSw=>by go_simp;try (with_reducible rfl)) ?_
    try simp only[Act.put,sA,sZ,sS]
    refine tq 11 76 rfl (fun W hSw=>by go_simp;try (with_reducible rfl)) ?_
    try simp only[Act.put,sA,sZ,sS]
    refine tq 12 77 rfl (fun W hSw=>by go_simp;try (with_reducible rfl)) ?_
    try simp only[Act.put,sA,sZ,sS]
    refine tq 13 78 rfl (fun W hSw=>by go_simp;try (with_reducible rfl)) ?_
    try simp only[Act.put,sA,sZ,sS]
    refine tq 14 79 rfl (fun W hSw=>by go_simp;try (with_reducible rfl)) ?_
    try simp only[Act.put,sA,sZ,sS]
    refine tq 15 80 rfl (fun W hSw=>by have aK:=hSw.2;go_simp;try (with_reducible rfl)) ?_
    try simp only[Act.put,sA,sZ,sS]
    refine tq 16 81 rfl (fun W hSw=>by go_simp;try (with_reducible rfl)) ?_
    try simp only[Act.put,sA,sZ,sS]
    refine tq 17 82 rfl (fun W hSw=>by go_simp;try (with_reducible rfl)) ?_
    try simp only[Act.put,sA,sZ,sS]
    refine wpAnyH_ready (rs:=[4,18]) (by kernel_rfl) (by simp) ?_
    refine AllReadyH.cons (o:=⟨some 69,_,_,_,_,_⟩) rfl (fun K hK=>?_) (AllReadyH.cons (o:=⟨some 83,_,_,_,_,_⟩) rfl (fun K hK=>?_) AllReadyH.nil)
    ·go_simp
     skip
     try go_wp2_with fail
     refine hK.out _ _ (by exact⟨I,Z⟩) (fun hHeld=>?_)
     clear hK K
     try simp only[Act.put,sA,sZ,sS]
     refine rd 18 rfl (fun K hK=>?_)
     go_simp
     (refine av.out.mono ?_);rintro e w6 ⟨rfl,t,u⟩;have d:=yH (MkB.put n.out t.2.1 t u);have aN:w6.cell? ⟨g,142,none⟩=some (.int .u64 (m.depth:Int)):=d.out.st.cell (Mk.get_depth _ _);have aD:w6.frozen? ⟨g,142,none⟩=false:=d.out.st.frozen 142;have z:w6.cell? ⟨g,145,none⟩=some (.slice F k cf):=(d.out.st.cell (Mk.get_f _ _)).trans (congrArg some r);have y:w6.cell? ⟨g,123,none⟩=some (.int .u64 (tf:Int)):=(d.out.st.cell (Mk.get_Nk _ _ 4 123 (by decide) rfl)).trans (congrArg (fun x=>some (Value.int .u64 x)) h4);have H: ∀v,(w6.setCell ⟨g,142,none⟩ v).cell? ⟨g,145,none⟩=some (.slice F k cf):=fun v=>((d.out.st.set_ 142 v).cell ((List.getElem?_set_ne (by decide)).trans (Mk.get_f _ _))).trans (congrArg some r);have aa: ∀v,(w6.setCell ⟨g,142,none⟩ v).cell? ⟨g,123,none⟩=some (.int .u64 (tf:Int)):=fun v=>((d.out.st.set_ 142 v).cell ((List.getElem?_set_ne (by decide)).trans (Mk.get_Nk _ _ 4 123 (by decide) rfl))).trans (congrArg (fun x=>some (Value.int .u64 x)) h4);have al:=yH u;clear t u
     try go_wp2_with fail
     refine hK.out _ _ (by exact⟨z,y⟩) (fun hHeld=>?_)
     clear hK K
     try simp only[Act.put,sA,sZ,sS]
     refine tq 19 84 rfl (fun W hSw=>by go_simp;try (with_reducible rfl)) ?_
     try simp only[Act.put,sA,sZ,sS]
     refine tq 20 85 rfl (fun W hSw=>by go_simp;try (with_reducible rfl)) ?_
     try simp only[Act.put,sA,sZ,sS]
     refine tq 21 86 rfl (fun W hSw=>by go_simp;try (with_reducible rfl)) ?_
     try simp only[Act.put,sA,sZ,sS]
     refine rd 22 rfl (fun K hK=>?_)
     go_simp
     skip
     try go_wp2_with fail
     refine hK.out _ _ (by exact⟨H _,aa _⟩) (fun hHeld=>?_)
     clear hK K
     try simp only[Act.put,sA,sZ,sS]
     refine wpAnyH_done (by kernel_rfl) ?_ _
     refine NoPanic.normal ?_
     try go_wp2_with fail
     go_meet
     case rel=>
      try rw[ac]
      try rw[←hM]
      exact⟨yH (MkB.depth d.out M),yH (((KeptF.refl (Two g b5) w5).drew.trans (al.out.kept.mono (fun i h=>Or.inr h)) (fun _ _ h=>h)).setCell (p:=⟨g,142,none⟩) (fun _=>Or.inl rfl) _)⟩
    ·go_simp
     (refine av.out.mono ?_);rintro e w6 ⟨rfl,t,u⟩;have d:=yH (MkB.put n.out t.2.1 t u);have aN:w6.cell? ⟨g,142,none⟩=some (.int .u64 (m.depth:Int)):=d.out.st.cell (Mk.get_depth _ _);have aD:w6.frozen? ⟨g,142,none⟩=false:=d.out.st.frozen 142;have z:w6.cell? ⟨g,145,none⟩=some (.slice F k cf):=(d.out.st.cell (Mk.get_f _ _)).trans (congrArg some r);have y:w6.cell? ⟨g,123,none⟩=some (.int .u64 (tf:Int)):=(d.out.st.cell (Mk.get_Nk _ _ 4 123 (by decide) rfl)).trans (congrArg (fun x=>some (Value.int .u64 x)) h4);have H: ∀v,(w6.setCell ⟨g,142,none⟩ v).cell? ⟨g,145,none⟩=some (.slice F k cf):=fun v=>((d.out.st.set_ 142 v).cell ((List.getElem?_set_ne (by decide)).trans (Mk.get_f _ _))).trans (congrArg some r);have aa: ∀v,(w6.setCell ⟨g,142,none⟩ v).cell? ⟨g,123,none⟩=some (.int .u64 (tf:Int)):=fun v=>((d.out.st.set_ 142 v).cell ((List.getElem?_set_ne (by decide)).trans (Mk.get_Nk _ _ 4 123 (by decide) rfl))).trans (congrArg (fun x=>some (Value.int .u64 x)) h4);have al:=yH u;clear t u
     try go_wp2_with fail
     refine hK.out _ _ (by exact⟨z,y⟩) (fun hHeld=>?_)
     clear hK K
     try simp only[Act.put,sA,sZ,sS]
     refine rd 4 rfl (fun K hK=>?_)
     go_simp
     skip
     try go_wp2_with fail
     refine hK.out _ _ (by exact⟨z,y⟩) (fun hHeld=>?_)
     clear hK K
     try simp only[Act.put,sA,sZ,sS]
     refine tq 19 84 rfl (fun W hSw=>by go_simp;try (with_reducible rfl)) ?_
     try simp only[Act.put,sA,sZ,sS]
     refine tq 20 85 rfl (fun W hSw=>by go_simp;try (with_reducible rfl)) ?_
     try simp only[Act.put,sA,sZ,sS]
     refine tq 21 86 rfl (fun W hSw=>by go_simp;try (with_reducible rfl)) ?_
     try simp only[Act.put,sA,sZ,sS]
     refine rd 22 rfl (fun K hK=>?_)
     go_simp
     skip
     try go_wp2_with fail
     refine hK.out _ _ (by exact⟨H _,aa _⟩) (fun hHeld=>?_)
     clear hK K
     try simp only[Act.put,sA,sZ,sS]
     refine wpAnyH_done (by kernel_rfl) ?_ _
     refine NoPanic.normal ?_
     try go_wp2_with fail
     go_meet
     case rel=>
      try rw[ac]
      try rw[←hM]
      exact⟨yH (MkB.depth d.out M),yH (((KeptF.refl (Two g b5) w5).drew.trans (al.out.kept.mono (fun i h=>Or.inr h)) (fun _ _ h=>h)).setCell (p:=⟨g,142,none⟩) (fun _=>Or.inl rfl) _)⟩
   case rest=>
    obtain⟨ap,a9⟩:=hcut
    clear aT I Z ac
    go_upto_region 10 with fail
    have bh:wc.cell? ⟨g,135,none⟩=some (.int .u64 (m.h.N 16)):=ap.out.st.cell (Mk.get_Nk _ _ 16 135 (by decide) rfl)
    have zf:wc.frozen? ⟨g,135,none⟩=false:=ap.out.st.frozen 135
    have bo:IntKind.u64.wrap (m.h.N 16+1)=m.h.N 16+1:=by rw[IntKind.wrap_u64];omega
    go_region
    have ad:=yH (MkB.below (MkB.setN ap.out 16 135 (by decide) rfl (m.h.N 16+1)) (yB _ _).drew)
    have ao:=yH ((a9.out.setCell (p:=⟨g,135,none⟩) (fun _=>Or.inl rfl) (.int .u64 (m.h.N 16+1))).drew)
    generalize (wc.setCell ⟨g,135,none⟩ (.int .u64 (m.h.N 16+1))).drew=w8 at*
    have E: ∀j,ownB F=some j→j≠g∧j≠b5:=fun j hj=>by
     refine⟨(HF.out j hj).1,fun e=>?_⟩
     rcases V with h|h
     ·exact(HF.out j hj).2 (e.trans h)
     ·have:=(OwnE.ltB (OwnE.kept aE.out J.out (yR _)) j hj).2
      omega
    have bd:=yH (OwnE.keptF aP.out ao.out (fun j hj e=>e.elim (E j hj).1 (E j hj).2))
    have bf:w8.cell? ⟨g,145,none⟩=some (.slice F k cf):=(ad.out.st.cell (Mk.get_f _ _)).trans (congrArg some r)
    go_upto_region 12 with(first
     |(at_builtin;(refine aAe aMN rfl (.tmp 102) (.tmp 107) rfl B F k cf (kf l) rfl (OwnE.alloc bd.out _) ⟨w8.heap.size,0,none⟩ 1 1 (knC ⟨s,m.b.length,sl,0,[]⟩ (.slice none 0 0)) rfl rfl (Blk.news (Blk.new w8 _ 142)) (by simp[knC,Value.oneCell']) (by omega) (by omega) (by unfold maxLen;omega) ?_);intro F9 c9 w9 aO Y af;have aV:=yH aO;have ax:=yH (MkB.grown (MkB.below ad.out ((yB _ _).alloc (yR _) _)) Y (fun e=>(E _ e).1 rfl) (fun e=>(E _ e).2 rfl));have a6:=yH (KeptF.grow _ Y);have x9:w9.cell? ⟨g,145,none⟩=some (.slice F k cf):=(ax.out.st.cell (Mk.get_f _ _)).trans (congrArg some r);have z9:w9.frozen? ⟨g,145,none⟩=false:=ax.out.st.frozen 145;clear aO Y)
     |fail)
    go_wp2
    go_ret
    have e1:ys=Mk.fobj m s:=by rw[ar,←HH.out];rfl
    have e2:sl=Mk.fslot m s:=by
     have:=bc.out
     rw[←HH.out]at this
     unfold Mk.fslot Mk.sum Cf.file
     rw[this]
     exact(Int.toNat_natCast sl).symm
    have aL: ∀j,ownB F9=some j→j≠g∧j≠b5:=fun j hj=>by
     rcases af with h|h
     ·exact E j (h▸hj)
     ·rw[h]at hj
      injection hj with hj
      have h1:=ad.out.st.lt
      have h2:=(aEI ad.out.own).2
      simp at hj
      omega
    have bk:=D.out.size
    have bq:=J.out.size
    refine .inr ⟨L.out,rfl,b5,aq,F9,c9,⟨?_,rfl,?_,aL,?_⟩,?_,?_,?_⟩
    ·refine MkB.same (MkB.setF ax.out (.slice F9 (k+1) c9)) rfl ?_ ?_ ?_
     ·show setN (m.object ys).h 16 _=setN (m.object (Mk.fobj m s)).h 16 _
      rw[e1]
     ·show M=max m.depth (inSlot (l.map Prod.fst) (Mk.fslot m s))
      rw[hM,HI.out,e2]
     ·show hung (m.b++ys) (l.map Prod.fst) tf m.b.length sl=hung (m.b++Mk.fobj m s) (l.map Prod.fst) tf m.b.length (Mk.fslot m s)
      rw[e1,e2]
    ·rw[←e2]
     unfold OwnK
     rw[aKo]
     exact OwnE.keptF aV.out (KeptF.set1 w9 g 145 _) (fun j hj e=>(aL j hj).1 e)
    ·intro p hp
     rcases List.mem_append.1 hp with h|h
     ·exact az p h
     ·rw[List.mem_singleton.1 h]
      exact hs
    ·rcases V with h|h
     ·exact .inl h
     ·exact .inr (by omega)
    ·rcases af with h|h
     ·exact .inl h
     ·refine .inr ⟨_,h,?_⟩
      have h1:=au.out.size
      have h2:=ao.out.size
      simp
      omega
    ·have K0:=KeptF.of_below (F:=fun j=>j=g∨j=bb∨ownB F=some j) (D.out.trans (J.out.mono D.out.size))
     have K1:=K0.trans au.out (fun i hi h=>h.elim Or.inl (fun e=>Or.inr (Or.inl e)))
     have K2:=K1.trans ao.out (fun i hi h=>by
      rcases h with h|h
      ·exact .inl h
      ·rcases V with h5|h5
       ·exact .inr (.inl (h.trans h5))
       ·omega)
     have K3:=(K2.alloc _).trans a6.out (fun i hi h=>Or.inr (Or.inr h))
     exact K3.setCell (p:=⟨g,145,none⟩) (fun _=>Or.inl rfl) _
end Mg
namespace Na
open Bytes8 Blk8 Own8 OwnA OwnE LeA Ob Od Ga Ma Kf Mb Mc Md Mf Mg Fb Dc
structure Pl where
 bb:Nat
 cb:Nat
 D:Option Addr
 nd:Nat
 cd:Nat
 F:Option Addr
 nf:Nat
 cf:Nat
 M:Value
 dl:List (Kn×Value)
 fl:List (Kn×Value)
def Pl.S (p:Pl):Sl:=⟨.bool false,.slice p.D p.nd p.cd,.slice p.F p.nf p.cf,p.M⟩
def Pl.foot (p:Pl)(g:Nat)(k:Nat):Prop:=k=g∨k=p.bb∨ownB p.D=some k∨ownB p.F=some k
def Pl.away (p:Pl)(B g:Nat)(k:Nat):Prop:=p.foot g k∨k<B
def Arr (w:World)(Ft:Nat→Prop)(v:Value)(l:List Nat):Prop:=
 ∃A n c,v= .slice A n c∧l.length=n∧ ∀i (h:i<l.length),∃b,A=some ⟨b,0,none⟩∧b<w.heap.size∧ ¬Ft b∧w.cell? ⟨b,i,none⟩=some (.int .u64 (l[i]:Int))
theorem Arr.nil (w:World)(Ft:Nat→Prop):Arr w Ft (.slice none 0 0) []:=⟨none,0,0,rfl,rfl,fun i h=>absurd h (by simp)⟩
theorem Arr.kept {w w':World}{Ft Ft' G:Nat→Prop}{v:Value}{l:List Nat}(h:Arr w Ft v l)(g:KeptF G w w')(k: ∀b,b<w.heap.size→ ¬Ft b→ ¬G b)(o: ∀b,b<w.heap.size→ ¬Ft b→ ¬Ft' b):Arr w' Ft' v l:=by
 obtain⟨A,n,c,rfl,j,h⟩:=h
 refine⟨A,n,c,rfl,j,fun i hi=>?_⟩
 obtain⟨b,e,d,f,m⟩:=h i hi
 exact⟨b,e,yL d g.size,o b d f,(World.cell?_of_block (a:=⟨b,i,none⟩) (g.block b d (k b d f))).trans m⟩
structure At (w:World)(B g:Nat)(p:Pl)(m:Mk):Prop where
 st:MkB w B g p.bb p.cb p.S m
 dr:OwnK w B p.D p.nd p.cd p.dl
 fr:OwnK w B p.F p.nf p.cf p.fl
 dm:p.dl.map Prod.fst=m.datas
 fm:p.fl.map Prod.fst=m.fields
 da: ∀q∈p.dl,Arr w (p.away B g) q.2 q.1.arrays
 ma:Arr w (p.away B g) p.M m.main
 dg: ∀k,ownB p.D=some k→k≠g∧k≠p.bb
 fg: ∀k,ownB p.F=some k→k≠g∧k≠p.bb
 df: ∀k,ownB p.D=some k→ownB p.F≠some k
 gB:B≤g
 fo: ∀q∈p.fl,q.2= .slice none 0 0
theorem At.lt {w:World}{B g:Nat}{p:Pl}{m:Mk}(h:At w B g p m): ∀k,p.foot g k→B≤k∧k<w.heap.size:=by
 rintro k (rfl|rfl|a|a)
 ·exact⟨h.gB,h.st.st.lt⟩
 ·exact aEI h.st.own
 ·exact OwnE.ltB h.dr k a
 ·exact OwnE.ltB h.fr k a
theorem At.off {w w':World}{B g:Nat}{p:Pl}{m:Mk}{G:Nat→Prop}(h:At w B g p m)(hk:KeptF G w w')(c: ∀k,k<w.heap.size→ ¬G k):At w' B g p m:=
 have hs:=h.lt
 have a: ∀k,p.foot g k→ ¬G k:=fun k hf=>c k (hs k hf).2
 {st:=⟨Kf.Blk.keptF h.st.st hk (a _ (.inl rfl)),Kf.Own.keptF h.st.own hk (fun k hk'=>a k (.inr (.inl (by injection hk' with e;exact e.symm)))),h.st.ne⟩
  dr:=OwnE.keptF h.dr hk (fun k e=>a k (.inr (.inr (.inl e))))
  fr:=OwnE.keptF h.fr hk (fun k e=>a k (.inr (.inr (.inr e))))
  dm:=h.dm,fm:=h.fm
  da:=fun q hq=>(h.da q hq).kept hk (fun b hb _=>c b hb) (fun _ _ h=>h)
  ma:=h.ma.kept hk (fun b hb _=>c b hb) (fun _ _ h=>h)
  dg:=h.dg,fg:=h.fg,df:=h.df,gB:=h.gB,fo:=h.fo}
theorem At.below {w w':World}{B g:Nat}{p:Pl}{m:Mk}(h:At w B g p m)(a:Below w.heap.size w w'):At w' B g p m:=h.off (KeptF.of_below (F:=None') a) (fun _ _ h=>h)
theorem At.turn {w w':World}{B g:Nat}{p p':Pl}{m m':Mk}(h:At w B g p m)(c:KeptF (p.foot g) w w')(d: ∀k,p'.foot g k→p.foot g k∨w.heap.size≤k)
 (st:MkB w' B g p'.bb p'.cb p'.S m')(dr:OwnK w' B p'.D p'.nd p'.cd p'.dl)(fr:OwnK w' B p'.F p'.nf p'.cf p'.fl)(dm:p'.dl.map Prod.fst=m'.datas)(fm:p'.fl.map Prod.fst=m'.fields)
 (da: ∀q∈p'.dl,q∈p.dl∨Arr w' (p'.away B g) q.2 q.1.arrays)(ma:(p'.M=p.M∧m'.main=m.main)∨Arr w' (p'.away B g) p'.M m'.main)
 (dg: ∀k,ownB p'.D=some k→k≠g∧k≠p'.bb)(fg: ∀k,ownB p'.F=some k→k≠g∧k≠p'.bb)(df: ∀k,ownB p'.D=some k→ownB p'.F≠some k)(fo: ∀q∈p'.fl,q∈p.fl∨q.2= .slice none 0 0):At w' B g p' m':=
 have a: ∀b,b<w.heap.size→ ¬p.away B g b→ ¬p'.away B g b:=fun b hb hnf h1=>h1.elim (fun h1=>(d b h1).elim (fun h=>hnf (.inl h)) (fun h2=>absurd hb (by omega))) (fun h=>hnf (.inr h))
 {st:=st,dr:=dr,fr:=fr,dm:=dm,fm:=fm,dg:=dg,fg:=fg,df:=df,gB:=h.gB
  fo:=fun q hq=>(fo q hq).elim (h.fo q) id
  da:=fun q hq=>(da q hq).elim (fun h1=>(h.da q h1).kept c (fun _ _ h h2=>h (.inl h2)) a) id
  ma:=ma.elim (fun h1=>by rw[h1.1,h1.2];exact h.ma.kept c (fun _ _ h h2=>h (.inl h2)) a) id}
def Mk.tf (m:Mk):Nat:=304+16*m.C.ds
def Mk.dslot (m:Mk)(s:List Int):Nat:=(Mk.sum m s%(m.C.ds:Int)).toNat
def Mk.dobj (m:Mk)(s:List Int):List Int:=objB 1 (nums [Mk.sum m s,0,0,0,0,0]++s)
def findK (l:List Kn)(s:List Int):Option Kn:=l.find? fun k=>k.text==s
def Mk.put1 (m:Mk)(s:List Int):Mk:=
 {m.object (Mk.dobj m s)with
  b:=hung (m.b++Mk.dobj m s) m.datas 288 m.b.length (Mk.dslot m s)
  h:=setN (setN (m.object (Mk.dobj m s)).h 19 (max (m.h.N 19) (inSlot m.datas (Mk.dslot m s):Nat))) 15 (m.h.N 15+1)
  datas:=m.datas++ [⟨s,m.b.length,Mk.dslot m s,0,[]⟩]}
def Mk.fieldOf (m:Mk)(s:List Int):Nat×Mk:=match findK m.fields s with
 |some k=>(k.at_,m)
 |none=>(m.b.length,Mk.named m m.fields (Mk.tf m) s)
def Mk.put2 (m:Mk)(at_ k:Nat):Mk:={m with b:=put8 (put8 m.b (at_+32) (u8 m.b (k+32))) (k+32) at_}
def Mk.dataNew (m:Mk)(nm s:List Int):Mk:=Mk.put2 (Mk.fieldOf (Mk.put1 m s) nm).2 m.b.length (Mk.fieldOf (Mk.put1 m s) nm).1
def idxK (l:List Kn)(s:List Int):Option Nat:=l.findIdx? fun k=>k.text==s
def Mk.dataOf (m:Mk)(nm s:List Int):Nat×Mk:=match idxK m.datas s with
 |some i=>(i,m)
 |none=>(m.datas.length,Mk.dataNew m nm s)
structure Chain (L:Nat)(arr:List Nat)(n:Nat):Prop where
 le:n≤rooms arr.length
 ge:0<arr.length→rooms (arr.length-1)≤n
 fits: ∀i (h:i<arr.length),arr[i]+24+8*roomN i≤L
theorem Chain.mono {L a:Nat}{arr:List Nat}{n:Nat}(h:Chain L arr n)(b:L≤a):Chain a arr n:=⟨h.le,h.ge,fun i hi=>Nat.le_trans (h.fits i hi) b⟩
theorem Chain.nil (L:Nat):Chain L [] 0:=⟨Nat.zero_le _,fun h=>absurd h (by simp),fun i h=>absurd h (by simp)⟩
structure Inv (m:Mk):Prop where
 F:IdOk m.C.F
 ds:0<m.C.ds∧m.C.ds≤64
 fs:0<m.C.fs∧m.C.fs≤64
 n2:m.h.N 2=((288:Nat):Int)
 n4:m.h.N 4=(Mk.tf m:Int)
 len:304+16*(m.C.ds+m.C.fs)≤m.b.length
 l8:m.b.length%8=0
 dat: ∀k∈m.datas,k.at_+64≤m.b.length∧AllB k.text∧k.text.length≤400∧Chain m.b.length k.arrays (k.count-1)∧k.count≤m.b.length
 fld: ∀k∈m.fields,k.at_+40≤m.b.length∧AllB k.text
 mn: ∃n:Nat,m.h.N 8=(n:Int)∧Chain m.b.length m.main n∧n≤m.b.length
 n7:0≤m.h.N 7∧m.h.N 7≤m.b.length
 n15:0≤m.h.N 15∧m.h.N 15≤m.b.length
 n16:0≤m.h.N 16∧m.h.N 16≤m.b.length
 n18:0≤m.h.N 18∧m.h.N 18≤m.b.length
 n19:0≤m.h.N 19∧m.h.N 19≤m.b.length
 dep:m.depth≤m.b.length
 dn:m.datas.length≤m.b.length
 fn:m.fields.length≤m.b.length
end Na
namespace Nb
open Bytes8 Ob Ga Ma Mc Mf Mg Na
theorem aIg (b:List Int)(l:List Kn)(t a slot:Nat)(f:t+16*slot+16≤b.length)(d: ∀k∈l,k.at_+32≤b.length):(hung b l t a slot).length=b.length:=by
 unfold hung
 by_cases h:inSlot l slot=0
 ·rw[if_pos h,aAp _ _ _ (by rw[aAp _ _ _ (by omega)];omega),aAp _ _ _ (by omega)]
 ·rw[if_neg h]
  obtain⟨q,c,e⟩:=Me.aEK h
  have:=d q c
  rw[e,aAp _ _ _ (by rw[aAp _ _ _ (by omega)];omega),aAp _ _ _ (by omega)]
theorem aAM (m:Mk)(l:List Int):(m.object l).b.length=m.b.length+l.length:=by simp[Mk.object]
theorem aBN (h:HD)(i:Nat)(v:Int):(setN h i v).N i=v:=by simp[setN]
theorem aA1 (h:HD)(i j:Nat)(v:Int)(e:j≠i):(setN h i v).N j=h.N j:=by simp[setN,e]
theorem aIh {m:Mk}(h:0<m.C.ds)(s:List Int):Mk.dslot m s<m.C.ds:=by
 unfold Mk.dslot
 have a:=Int.emod_nonneg (Mk.sum m s) (show(m.C.ds:Int)≠0 by omega)
 have b:=Int.emod_lt_of_pos (Mk.sum m s) (show(0:Int)<(m.C.ds:Int)by omega)
 omega
theorem aIi {m:Mk}(h:0<m.C.fs)(s:List Int):Mk.fslot m s<m.C.fs:=by
 unfold Mk.fslot
 have a:=Int.emod_nonneg (Mk.sum m s) (show(m.C.fs:Int)≠0 by omega)
 have b:=Int.emod_lt_of_pos (Mk.sum m s) (show(0:Int)<(m.C.fs:Int)by omega)
 omega
theorem aBY (m:Mk)(s:List Int):(Mk.dobj m s).length=64+s.length+padN s.length∧(64+s.length+padN s.length)%8=0∧padN s.length≤7:=by
 have:=aFs s.length
 have e:padN (48+s.length)=padN s.length:=by unfold padN;omega
 refine⟨?_,by omega,this.1⟩
 unfold Mk.dobj
 rw[aBj,yA,nums_len]
 simp only[List.length_cons,List.length_nil]
 rw[e]
 omega
theorem aFk (m:Mk)(s:List Int):(Mk.fobj m s).length=40+s.length+padN s.length∧(40+s.length+padN s.length)%8=0∧padN s.length≤7:=by
 have:=aFs s.length
 have e:padN (24+s.length)=padN s.length:=by unfold padN;omega
 refine⟨?_,by omega,this.1⟩
 unfold Mk.fobj
 rw[aBj,yA,nums_len]
 simp only[List.length_cons,List.length_nil]
 rw[e]
 omega
theorem aCx {m:Mk}(h:Inv m)(s:List Int):(Mk.put1 m s).b.length=m.b.length+(Mk.dobj m s).length:=by
 have hs:=aIh h.ds.1 s
 have c:=h.len
 show(hung (m.b++Mk.dobj m s) m.datas 288 m.b.length (Mk.dslot m s)).length=_
 rw[aIg,yA]
 ·rw[yA];omega
 ·intro k a
  have:=(h.dat k a).1
  rw[yA];omega
theorem aF6 {m:Mk}(h:Inv m)(s:List Int):(Mk.named m m.fields (Mk.tf m) s).b.length=m.b.length+(Mk.fobj m s).length:=by
 have hs:=aIi h.fs.1 s
 have c:=h.len
 show(hung (m.b++Mk.fobj m s) m.fields (Mk.tf m) m.b.length (Mk.fslot m s)).length=_
 rw[aIg,yA]
 ·rw[yA];unfold Mk.tf;omega
 ·intro k a
  have:=(h.fld k a).1
  rw[yA];omega
theorem aEL (l:List Kn)(s:Nat):inSlot l s≤l.length:=Me.aCv l s
theorem aIj {m:Mk}(h:Inv m)(s:List Int)(hs:AllB s)(l:s.length≤400):Inv (Mk.put1 m s):=by
 have i:=aCx h s
 obtain⟨p,r,t⟩:=aBY m s
 rw[p]at i
 have:=h.l8
 refine {F:=h.F,ds:=h.ds,fs:=h.fs,n2:=?_,n4:=?_,len:=by rw[i];exact Nat.le_trans h.len (by omega),l8:=by omega,dat:=?_,fld:=?_,mn:=?_,n7:=?_,n15:=?_,n16:=?_,n18:=?_,n19:=?_,dep:=Nat.le_trans h.dep (by omega),dn:=?_,fn:=Nat.le_trans h.fn (by omega)}
 ·rw[←h.n2];rfl
 ·show _=((Mk.tf m:Nat):Int)
  rw[←h.n4];rfl
 ·intro k f
  rcases List.mem_append.1 (show k∈m.datas++_ from f)with f|f
  ·obtain⟨a,b,c,d,e⟩:=h.dat k f
   exact⟨by omega,b,c,d.mono (by omega),by omega⟩
  ·rw[List.mem_singleton.1 f]
   exact⟨by show m.b.length+64≤_;omega,hs,l,Chain.nil _,Nat.zero_le _⟩
 ·intro k f
  obtain⟨a,b⟩:=h.fld k f
  exact⟨by omega,b⟩
 ·obtain⟨n,q,g,o⟩:=h.mn
  exact⟨n,by rw[←q];rfl,g.mono (by omega),by omega⟩
 ·have:=h.n7
  show 0≤m.h.N 7+1∧m.h.N 7+1≤_
  omega
 ·have:=h.n15
  show 0≤m.h.N 15+1∧m.h.N 15+1≤_
  omega
 ·have:=h.n16
  show 0≤m.h.N 16∧m.h.N 16≤_
  omega
 ·have:=h.n18
  show 0≤m.h.N 18∧m.h.N 18≤_
  omega
 ·have j:=h.n19
  have g:=aEL m.datas (Mk.dslot m s)
  have o:=h.dn
  show 0≤max (m.h.N 19) (inSlot m.datas (Mk.dslot m s):Nat)∧max (m.h.N 19) (inSlot m.datas (Mk.dslot m s):Nat)≤_
  omega
 ·show(m.datas++_).length≤_
  have:=h.dn
  rw[yA,List.length_singleton]
  omega
theorem aKr {m:Mk}(h:Inv m)(s:List Int)(hs:AllB s):Inv (Mk.named m m.fields (Mk.tf m) s):=by
 have i:=aF6 h s
 obtain⟨l,p,q⟩:=aFk m s
 rw[l]at i
 have:=h.l8
 refine {F:=h.F,ds:=h.ds,fs:=h.fs,n2:=?_,n4:=?_,len:=by rw[i];exact Nat.le_trans h.len (by omega),l8:=by omega,dat:=?_,fld:=?_,mn:=?_,n7:=?_,n15:=?_,n16:=?_,n18:=?_,n19:=?_,dep:=?_,dn:=Nat.le_trans h.dn (by omega),fn:=?_}
 ·rw[←h.n2];rfl
 ·show _=((Mk.tf m:Nat):Int)
  rw[←h.n4];rfl
 ·intro k f
  obtain⟨a,b,c,d,e⟩:=h.dat k f
  exact⟨by omega,b,c,d.mono (by omega),by omega⟩
 ·intro k f
  rcases List.mem_append.1 (show k∈m.fields++_ from f)with f|f
  ·obtain⟨a,b⟩:=h.fld k f
   exact⟨by omega,b⟩
  ·rw[List.mem_singleton.1 f]
   exact⟨by show m.b.length+40≤_;omega,hs⟩
 ·obtain⟨n,o,g,j⟩:=h.mn
  exact⟨n,by rw[←o];rfl,g.mono (by omega),by omega⟩
 ·have:=h.n7
  show 0≤m.h.N 7+1∧m.h.N 7+1≤_
  omega
 ·have:=h.n15
  show 0≤m.h.N 15∧m.h.N 15≤_
  omega
 ·have:=h.n16
  show 0≤m.h.N 16+1∧m.h.N 16+1≤_
  omega
 ·have:=h.n18
  show 0≤m.h.N 18∧m.h.N 18≤_
  omega
 ·have:=h.n19
  show 0≤m.h.N 19∧m.h.N 19≤_
  omega
 ·have g:=aEL m.fields (Mk.fslot m s)
  have j:=h.fn
  have:=h.dep
  show max m.depth (inSlot m.fields (Mk.fslot m s))≤_
  omega
 ·show(m.fields++_).length≤_
  have:=h.fn
  rw[yA,List.length_singleton]
  omega
theorem aD0 {m:Mk}(h:Inv m){l:List Int}(a:l.length=m.b.length):Inv {m with b:=l}:=
 {F:=h.F,ds:=h.ds,fs:=h.fs,n2:=h.n2,n4:=h.n4,len:=by show _≤l.length;rw[a];exact h.len,l8:=by show l.length%8=0;rw[a];exact h.l8
  dat:=by show ∀k∈m.datas,k.at_+64≤l.length∧AllB k.text∧k.text.length≤400∧Chain l.length k.arrays (k.count-1)∧k.count≤l.length
          rw[a];exact h.dat
  fld:=by show ∀k∈m.fields,k.at_+40≤l.length∧AllB k.text
          rw[a];exact h.fld
  mn:=by show ∃n:Nat,m.h.N 8=(n:Int)∧Chain l.length m.main n∧n≤l.length
         rw[a];exact h.mn
  n7:=by show _∧_≤(l.length:Int);rw[a];exact h.n7
  n15:=by show _∧_≤(l.length:Int);rw[a];exact h.n15
  n16:=by show _∧_≤(l.length:Int);rw[a];exact h.n16
  n18:=by show _∧_≤(l.length:Int);rw[a];exact h.n18
  n19:=by show _∧_≤(l.length:Int);rw[a];exact h.n19
  dep:=by show _≤l.length;rw[a];exact h.dep
  dn:=by show _≤l.length;rw[a];exact h.dn
  fn:=by show _≤l.length;rw[a];exact h.fn}
theorem aIk {m:Mk}{a k:Nat}(d:a+64≤m.b.length)(c:k+40≤m.b.length):(Mk.put2 m a k).b.length=m.b.length:=by
 show(put8 (put8 _ _ _) _ _).length=_
 rw[aAp _ _ _ (by rw[aAp _ _ _ (by omega)];omega),aAp _ _ _ (by omega)]
theorem aMO {m:Mk}(h:Inv m){a k:Nat}(d:a+64≤m.b.length)(c:k+40≤m.b.length):Inv (Mk.put2 m a k):=aD0 h (aIk d c)
theorem aF7 {l:List Kn}{s:List Int}{k:Kn}(h:findK l s=some k):k∈l:=List.mem_of_find?_eq_some h
theorem aD1 {m:Mk}(h:Inv m)(s:List Int)(hs:AllB s)(d:s.length≤64):Inv (Mk.fieldOf m s).2∧(Mk.fieldOf m s).1+40≤(Mk.fieldOf m s).2.b.length∧m.b.length≤(Mk.fieldOf m s).2.b.length∧(Mk.fieldOf m s).2.b.length≤m.b.length+112∧(Mk.fieldOf m s).2.datas=m.datas∧(Mk.fieldOf m s).2.C=m.C∧(Mk.fieldOf m s).2.main=m.main∧(Mk.fieldOf m s).2.h.N 8=m.h.N 8∧(Mk.fieldOf m s).2.h.N 9=m.h.N 9:=by
 unfold Mk.fieldOf
 cases e:findK m.fields s with
 |some k=>
  dsimp only
  exact⟨h,(h.fld k (aF7 e)).1,yR _,Nat.le_add_right _ _,rfl,rfl,rfl,rfl,rfl⟩
 |none=>
  dsimp only
  have g:=aF6 h s
  obtain⟨f,a,c⟩:=aFk m s
  exact⟨aKr h s hs,by show m.b.length+40≤_;omega,by show m.b.length≤(Mk.named m m.fields (Mk.tf m) s).b.length;omega,by show(Mk.named m m.fields (Mk.tf m) s).b.length≤_;omega,rfl,rfl,rfl,rfl,rfl⟩
theorem aCb {m:Mk}(h:Inv m)(c s:List Int)(l:AllB c)(d:c.length≤64)(hs:AllB s)(e:s.length≤400):
 Inv (Mk.dataNew m c s)∧m.b.length≤(Mk.dataNew m c s).b.length∧(Mk.dataNew m c s).b.length≤m.b.length+600∧(Mk.dataNew m c s).datas=m.datas++ [⟨s,m.b.length,Mk.dslot m s,0,[]⟩]∧(Mk.dataNew m c s).C=m.C∧(Mk.dataNew m c s).main=m.main∧(Mk.dataNew m c s).h.N 8=m.h.N 8∧(Mk.dataNew m c s).h.N 9=m.h.N 9:=by
 have p:=aIj h s hs e
 have v:=aCx h s
 obtain⟨y,r,t⟩:=aBY m s
 obtain⟨o,f,x,u,i,j,n,g,q⟩:=aD1 p c l d
 have w:=aIk (m:=(Mk.fieldOf (Mk.put1 m s) c).2) (a:=m.b.length) (k:=(Mk.fieldOf (Mk.put1 m s) c).1) (by omega) f
 refine⟨aMO o (by omega) f,?_,?_,?_,?_,?_,?_,?_⟩
 ·show _≤(Mk.put2 _ _ _).b.length;omega
 ·show(Mk.put2 _ _ _).b.length≤_;omega
 ·exact i
 ·exact j
 ·exact n
 ·exact g
 ·exact q
end Nb
end Go.Proofs.YteaikbodkgjkdaaGreat
