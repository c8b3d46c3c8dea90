/-
  Texts beneath the proof.
-/
import Derived.Test.YtiddkgcafpaekaaGreatJq24
import Derived.Test.YtiddkgcafpaekaaGreatJq29
set_option linter.unusedVariables false
set_option linter.unusedSimpArgs false
set_option maxRecDepth 100000
set_option maxHeartbeats 2000000
open Go.ChangeShapes Go.WideShapes Go.ChangeAt Go.RowKit
namespace Go.Proofs.YtiddkgcafpaekaaGreat
namespace Zg
open Bytes8 Blk8 Ya Ob Ga Ma Mb Mg Na Nb Nc Nh Nl Np Fc Nq Ns Nt Nu Fa Yd Yc Za Zb Zc Zd Ze Zf Pr8 Ps8 Pl8
theorem prs_zeros (n:Nat):prs (fun _=>0) (fun _=>0) n=List.replicate (2*n) 0:=by
 induction n with
 |zero=>rfl
 |succ n ih=>
  rw[show prs (fun _=>0) (fun _=>0) (n+1)=prs (fun _=>0) (fun _=>0) n++ [0,0]by simp[prs,List.range_succ],ih,show 2*(n+1)=2*n+2 by omega,←List.replicate_append_replicate]
  rfl
def tabO (k:Int)(n i:Nat):O:=⟨k,List.replicate (2*n) 0,[],(0,i)⟩
theorem tabO_enc (k:Int)(n i:Nat):(tabO k n i).enc=Np.tabB k n:=by
 unfold O.enc O.body tabO Np.tabB
 rw[List.append_nil,prs_zeros]
theorem tabO_ok {k:Int}(n i:Nat)(hk:1≤k∧k≤7)(hn:n≤64):(tabO k n i).Ok:=
 {k:=hk
  ws:=fun x hx=>by rw[List.eq_of_mem_replicate hx];decide
  tl:=fun x hx=>by cases hx
  n:=by
   rw[O.body_len]
   show 8*(List.replicate (2*n) (0:Int)).length+0≤_
   rw[List.length_replicate];omega}
theorem hold_mk {C:Cf}(h:CfOk C)(after:Int):Hold (Mk.new C after) [tabO 4 C.ds 0,tabO 5 C.fs 1] (fun _=>[]) [] []:=by
 have hds:=h.ds
 have hfs:=h.fs
 have o1:=tabO_ok (k:=4) C.ds 0 (by decide) hds.2
 have o2:=tabO_ok (k:=5) C.fs 1 (by decide) hfs.2
 have n1:(tabO 4 C.ds 0).n=16+16*C.ds:=by
  show(tabO 4 C.ds 0).enc.length=_
  rw[tabO_enc,tabB_len]
 have hz: ∀(k:Int) (n i j:Nat),(tabO k n i).ws.getD j 0=0:=fun k n i j=>by
  show(List.replicate (2*n) (0:Int)).getD j 0=0
  rw[List.getD_eq_getElem?_getD,List.getElem?_replicate]
  split<;>rfl
 have e4:obj 272 [tabO 4 C.ds 0,tabO 5 C.fs 1] 272=some (tabO 4 C.ds 0):=rfl
 have e5:obj 272 [tabO 4 C.ds 0,tabO 5 C.fs 1] (288+16*C.ds)=some (tabO 5 C.fs 1):=by
  show(if 288+16*C.ds=272 then _ else if 288+16*C.ds=272+(tabO 4 C.ds 0).n then _ else _)=_
  rw[if_neg (by omega),if_pos (by omega)]
 have hw: ∀a j,wd [tabO 4 C.ds 0,tabO 5 C.fs 1] a j=0:=fun a j=>by
  unfold wd
  show(match (if a=272 then some (tabO 4 C.ds 0)else if a=272+(tabO 4 C.ds 0).n then some (tabO 5 C.fs 1)else none)with|some o=>o.ws.getD j 0|none=>0)=0
  by_cases h1:a=272
  ·rw[if_pos h1];exact hz _ _ _ _
  ·rw[if_neg h1]
   by_cases h2:a=272+(tabO 4 C.ds 0).n
   ·rw[if_pos h2];exact hz _ _ _ _
   ·rw[if_neg h2]
 exact
  {rep:=by
    refine⟨⟨?_,?_⟩,?_⟩
    ·show 272≤(z272++Np.tabB 4 C.ds++Np.tabB 5 C.fs).length
     rw[List.length_append,List.length_append]
     unfold z272
     rw[List.length_replicate];omega
    ·show(z272++Np.tabB 4 C.ds++Np.tabB 5 C.fs).drop 272=_
     rw[List.append_assoc,List.drop_append]
     unfold z272
     rw[List.length_replicate,List.drop_of_length_le (by rw[List.length_replicate];omega),Nat.sub_self,List.drop_zero,List.nil_append,enc_cons,enc_cons,tabO_enc,tabO_enc]
     simp[enc]
    ·intro o ho
     simp at ho
     rcases ho with rfl|rfl
     ·exact o1
     ·exact o2
   td:=⟨⟨(0,0),by unfold shp;rw[e4];show some (Sh.mk 4 (List.replicate (2*C.ds) (0:Int)).length [] (0,0))=_;rw[List.length_replicate];rfl⟩,fun s _=>by rw[hw];rfl,fun s _=>by rw[hw];rfl⟩
   tf:=⟨⟨(0,1),by
    unfold shp
    show Option.map O.sh (obj 272 _ (288+16*C.ds))=_
    rw[e5];show some (Sh.mk 5 (List.replicate (2*C.fs) (0:Int)).length [] (0,1))=_;rw[List.length_replicate];rfl⟩,fun s _=>by rw[hw];rfl,fun s _=>by rw[hw];rfl⟩
   dat:=fun i hi=>absurd hi (Nat.not_lt_zero _)
   fld:=fun i hi=>absurd hi (Nat.not_lt_zero _)
   asc:=List.Pairwise.nil,ascF:=List.Pairwise.nil
   ownF:=fun d hd=>by cases hd
   dtx:=List.Pairwise.nil,ftx:=List.Pairwise.nil,none:=fun _ _=>rfl
   mn:=ArrW.nil _ _
   ent:=fun i hi=>absurd hi (Nat.not_lt_zero _)
   cov:=fun x s hx=>by
    obtain⟨o,ho,_⟩:=shp_some hx
    have ho2:(if x=272 then some (tabO 4 C.ds 0)else if x=272+(tabO 4 C.ds 0).n then some (tabO 5 C.fs 1)else none)=some o:=ho
    by_cases h1:x=272
    ·exact .inl h1
    ·rw[if_neg h1]at ho2
     by_cases h2:x=272+(tabO 4 C.ds 0).n
     ·exact .inr (.inl (by show x=288+16*C.ds;omega))
     ·rw[if_neg h2]at ho2;cases ho2}
def hsAll (e:Nat)(hs:Nat→List Nat)(who:List Nat):Nat→List Nat:=who.foldl (fun h j i=>if i=j then h j++ [e]else h i) hs
theorem hold_markAll {L0:Nat}{m:Mk}{os:List O}{hs:Nat→List Nat}{mi:List Nat}{es:List (Nat×List Int)}(h:Hold m os hs mi es)(I:InvM L0 0 m)(e:Nat)(who:List Nat)(hw: ∀x∈who,x<m.datas.length)(h16:who.length≤16)(hb:m.b.length≤900000)(hL:L0≤900000)(he:e≤10000000): ∀i,i≤who.length→ ∃os',Hold (Mk.markAll e m (who.take i)) os' (hsAll e hs (who.take i)) mi es
 |0,_=>by
  rw[show Mk.markAll e m (who.take 0)=m by rw[List.take_zero];rfl,show hsAll e hs (who.take 0)=hs by rw[List.take_zero];rfl]
  exact⟨os,h⟩
 |i+1,hi=>by
  obtain⟨o1,h1⟩:=hold_markAll h I e who hw h16 hb hL he i (by omega)
  obtain⟨k1,k2,k3,k4,k5,k6,k7⟩:=inv_markAll I e who hw h16 i (by omega)
  rw[markAll_step e m who i (by omega),show hsAll e hs (who.take (i+1))=(fun x=>if x=who[i]then hsAll e hs (who.take i) who[i]++ [e]else hsAll e hs (who.take i) x)by
   unfold hsAll
   rw[List.take_succ_eq_append_getElem (by omega),List.foldl_append]
   rfl]
  exact hold_mark h1 (by omega) (by rw[k4];exact hw _ (List.getElem_mem _)) he (fun k hk=>by have:=k1.cnt k hk;omega)
theorem mark_keep (e:Nat)(m:Mk)(j:Nat):(Mk.mark e m j).main=m.main∧(Mk.mark e m j).h.N 11=m.h.N 11:=by
 unfold Mk.mark
 dsimp only
 split
 ·exact⟨rfl,rfl⟩
 ·unfold Mk.link
  split
  ·refine⟨rfl,?_⟩
   show(setN (setN (setN m.h 6 _) 7 _) 18 _).N 11=_
   rw[setN_ne _ _ _ _ (by decide),setN_ne _ _ _ _ (by decide),setN_ne _ _ _ _ (by decide)]
  ·exact⟨rfl,rfl⟩
theorem markAll_keep (e:Nat): ∀(who:List Nat) (m:Mk),(Mk.markAll e m who).main=m.main∧(Mk.markAll e m who).h.N 11=m.h.N 11
 | [],m=>⟨rfl,rfl⟩
 |j::who,m=>by
  obtain⟨a1,a2⟩:=markAll_keep e who (Mk.mark e m j)
  obtain⟨b1,b2⟩:=mark_keep e m j
  exact⟨a1.trans b1,a2.trans b2⟩
theorem entB_all {s r mo x:Int}{K:Nat→Int}(hK:IdOk K)(ps:List Int):AllB (entB s r mo K x ps):=by
 unfold entB
 exact(((nums_all _).app (idL_all hK)).app (nums_all _)).app (nums_all _)
theorem name_61 {n:List Int}(h:nmB n=true): ∀x∈n,x≠61:=fun x hx=>by
 unfold nmB at h
 simp only[Bool.and_eq_true]at h
 have h1:=List.all_eq_true.1 h.2 x hx
 intro e
 subst e
 exact absurd h1 (by decide)
theorem codes_all: ∀(l:List PR),codeL l=0→ ∀q∈l,flawI q.1 q.2=0
 | [],_,q,hq=>by cases hq
 |p::r,h,q,hq=>by
  unfold codeL at h
  split at h
  ·next h0=>
   rcases List.mem_cons.1 hq with rfl|hq
   ·exact h0
   ·exact codes_all r h q hq
  ·next h0=>exact absurd h h0
theorem list_ok {raw:List PR}(h:listE raw=0):(listL raw).length≤16∧ ∀q∈listL raw,q∈raw∧flawI q.1 q.2=0:=by
 have hL:listL raw=sortP (ded raw):=if_pos h
 unfold listE at h
 split at h
 ·cases h
 ·split at h
  ·next hc=>
   split at h
   ·next h16=>
    rw[hL,sortP_len]
    refine⟨h16,fun q hq=>?_⟩
    have hq2:=(ded_mem raw q).1 ((sortP_mem _ _).1 hq)
    exact⟨hq2,codes_all _ hc q hq2⟩
   ·cases h
  ·next hc=>exact absurd h hc
structure PrOk (L:List PR):Prop where
 all: ∀q∈L,AllB q.1∧AllB q.2∧q.1.length≤64∧q.2.length≤256
 nm: ∀q∈L,∀x∈q.1,x≠61
 len:L.length≤16
theorem prOk_list {raw:List PR}(hP:AllP raw)(h1:listE raw=0):PrOk (listL raw):=by
 obtain⟨n16,hok⟩:=list_ok h1
 refine⟨fun q hq=>?_,fun q hq=>?_,n16⟩
 ·obtain⟨a1,a2⟩:=hok q hq
  have a3:=hP q a1
  have a4:=flaw_len a2
  exact⟨a3.1,a3.2.1,a4.1,a4.2⟩
 ·obtain⟨a1,a2⟩:=hok q hq
  unfold flawI at a2
  by_cases h2:nmB q.1=true
  ·exact name_61 h2
  ·rw[if_neg h2]at a2;cases a2
theorem hold_grown {m:Mk}{os:List O}{hs:Nat→List Nat}{mi:List Nat}{es:List (Nat×List Int)}(h:Hold m os hs mi es)(I:Inv m)(h8:m.h.N 8=(mi.length:Nat)){L:List PR}(hl:PrOk L)(hb:m.b.length≤32768)(real mono:Int)(K:Nat→Int)(hK:IdOk K):
 ∃os',Hold (Mk.grown m L real mono K) os' (hsAll (Mk.dataAll m L).1.b.length hs (Mk.dataAll m L).2) (mi++ [(Mk.dataAll m L).1.b.length]) (es++ [((Mk.dataAll m L).1.b.length,entB (m.h.N 9+1) real mono K ((xr (L.map fun q=>pay q.1 q.2):Nat):Int) (prs (fun i=>((Mk.kn (Mk.dataAll m L).1 ((Mk.dataAll m L).2.getD i 0)).at_:Int)) (fun i=>Mk.sum (Mk.dataAll m L).1 (Mk.kn (Mk.dataAll m L).1 ((Mk.dataAll m L).2.getD i 0)).text) (Mk.dataAll m L).2.length))])∧
  (Mk.grown m L real mono K).h.N 11=((Mk.grown m L real mono K).main.headD 0:Nat)∧m.b.length≤(Mk.dataAll m L).1.b.length∧(Mk.dataAll m L).1.b.length<(Mk.grown m L real mono K).b.length:=by
 obtain⟨i1,i2,i3,i4,i5⟩:=inv_dataAll I L hl.all L.length (yR _)
 obtain⟨o1,H1⟩:=hold_dataAll h I L hl.all hl.nm hl.len (by omega) L.length (yR _)
 rw[List.take_length]at i1 i2 i3 i4 i5 H1
 have hl16:=hl.len
 unfold Mk.grown
 dsimp only
 generalize hmd:Mk.dataAll m L=s at*
 obtain⟨md,who⟩:=s
 dsimp only at*
 obtain⟨n8,hn8,hch8,hn8b⟩:=i1.mn
 have hel:(Mk.eobj md who (L.map fun q=>pay q.1 q.2) (m.h.N 9+1) real mono K).length%8=0∧0<(Mk.eobj md who (L.map fun q=>pay q.1 q.2) (m.h.N 9+1) real mono K).length∧(Mk.eobj md who (L.map fun q=>pay q.1 q.2) (m.h.N 9+1) real mono K).length≤400∧64≤(Mk.eobj md who (L.map fun q=>pay q.1 q.2) (m.h.N 9+1) real mono K).length:=by
  have e:=eobj_len md who (L.map fun q=>pay q.1 q.2) (m.h.N 9+1) real mono K
  omega
 obtain⟨e1,e2,e3,e4⟩:=hel
 have H2:=hold_ent H1 (body:=entB (m.h.N 9+1) real mono K ((xr (L.map fun q=>pay q.1 q.2):Nat):Int) (prs (fun i=>((Mk.kn md (who.getD i 0)).at_:Int)) (fun i=>Mk.sum md (Mk.kn md (who.getD i 0)).text) who.length)) (entB_all hK _) (by rw[entB_len];omega)
 have heo:Mk.eobj md who (L.map fun q=>pay q.1 q.2) (m.h.N 9+1) real mono K=objB 3 (entB (m.h.N 9+1) real mono K ((xr (L.map fun q=>pay q.1 q.2):Nat):Int) (prs (fun i=>((Mk.kn md (who.getD i 0)).at_:Int)) (fun i=>Mk.sum md (Mk.kn md (who.getD i 0)).text) who.length)):=rfl
 rw[←heo]at H2
 have I2:=inv_object i1 _ e1 e2
 have hol:=object_len md (Mk.eobj md who (L.map fun q=>pay q.1 q.2) (m.h.N 9+1) real mono K)
 generalize Mk.eobj md who (L.map fun q=>pay q.1 q.2) (m.h.N 9+1) real mono K=eo at*
 generalize entB (m.h.N 9+1) real mono K ((xr (L.map fun q=>pay q.1 q.2):Nat):Int) (prs (fun i=>((Mk.kn md (who.getD i 0)).at_:Int)) (fun i=>Mk.sum md (Mk.kn md (who.getD i 0)).text) who.length)=body at*
 have hC2:Chain (md.object eo).b.length (md.object eo).main n8:=hch8.mono (by omega)
 have hn2:(md.object eo).h.N 8=(n8:Int):=hn8
 have h304:=i1.len
 have e8:(m.h.N 8).toNat=n8:=by rw[←i5.n8,hn8];rfl
 have e9:mi.length=n8:=by omega
 rw[e8,←e9]
 obtain⟨o3,H3⟩:=hold_linked H2 (by omega) (item:=md.b.length) (by omega)
 obtain⟨g1,g2,g3,g4,g5,g6,g7⟩:=inv_linked I2 md.b.length n8 hn2 hC2 (by omega) (by omega)
 rw[←e9]at g1 g2 g3 g4 g5 g6 g7
 have h11:(Mk.linked (md.object eo) md.b.length mi.length).h.N 11=(((Mk.linked (md.object eo) md.b.length mi.length).main.headD 0:Nat):Int):=by
  show(setN (Mk.link (md.object eo) (md.object eo).main mi.length 176 md.b.length).1.h 11 _).N 11=_
  rw[setN_same]
  show(((Mk.link (md.object eo) (md.object eo).main mi.length 176 md.b.length).2.1.getD 0 0:Nat):Int)=(((Mk.link (md.object eo) (md.object eo).main mi.length 176 md.b.length).2.1.headD 0:Nat):Int)
  cases(Mk.link (md.object eo) (md.object eo).main mi.length 176 md.b.length).2.1<;>rfl
 generalize Mk.linked (md.object eo) md.b.length mi.length=mL at*
 have hM0:InvM md.b.length 0 mL:=⟨g1,fun k' hk'=>by rw[g4]at hk';exact(i1.dat k' hk').2.2.2.2,by omega⟩
 have hw: ∀y∈who,y<mL.datas.length:=fun y hy=>by rw[g4];exact i3 y hy
 obtain⟨k1,k2,k3,k4,k5,k6,k7⟩:=inv_markAll hM0 md.b.length who hw (by omega) who.length (yR _)
 obtain⟨o4,H4⟩:=hold_markAll H3 hM0 md.b.length who hw (by omega) (by omega) (by omega) (by omega) who.length (yR _)
 rw[List.take_length]at k1 k2 k3 k4 k5 k6 k7 H4
 obtain⟨y1,y2⟩:=markAll_keep md.b.length who mL
 exact⟨o4,H4,by rw[y2,y1];exact h11,i5.len,by omega⟩
theorem hold_told {m:Mk}{os:List O}{hs:Nat→List Nat}{mi:List Nat}{es:List (Nat×List Int)}(H:Hold m os hs mi es)(n:Nat)(seq real mono:Int)(K:Nat→Int)(te:Nat):Hold (Mk.told m n seq real mono K te) os hs mi es:=
 {rep:=H.rep,td:=H.td,tf:=H.tf
  dat:=fun i hi=>(H.dat i hi).stp rfl (Stp.refl os (fun _ _=>False)) (fun _ _ _ h=>h) (fun _ _ _ _ _ h=>h)
  fld:=fun i hi=>by
   have F:=H.fld i hi
   exact {sh:=F.sh,w0:=F.w0,slot:=F.slot,fol:=F.fol}
  asc:=H.asc,ascF:=H.ascF,ownF:=H.ownF,dtx:=H.dtx,ftx:=H.ftx,none:=H.none,mn:=H.mn,ent:=H.ent,cov:=H.cov}
structure Kept (m:Mk)(n:Nat)(os:List O)(hs:Nat→List Nat)(mi:List Nat)(es:List (Nat×List Int)):Prop where
 hold:Hold m os hs mi es
 good:Nu.Good m
 n8:m.h.N 8=(n:Int)
 len:mi.length=n
 n11:m.h.N 11=(m.main.headD 0:Nat)
 rise:mi.Pairwise (· < ·)
 bd: ∀x∈mi,304≤x∧x<m.b.length
 ent:es.map Prod.fst=mi
end Zg
namespace Zj
open Bytes8 Blk8 Ya Ga Ma Mb Mg Na Nb Nc Nh Nl Np Nq Ns Nt Nu Fa Yd Yc Za Zb Zc Zd Ze Zf Zg Pr8 Ps8 Pl8
structure DG (m m':Mk):Prop where
 C:m'.C=m.C
 ic:m'.h.ic=m.h.ic
 I: ∀i,i<16→m'.h.I i=m.h.I i
 len:m.datas.length≤m'.datas.length
 kn: ∀i,i<m.datas.length→(Mk.kn m' i).at_=(Mk.kn m i).at_∧(Mk.kn m' i).text=(Mk.kn m i).text
theorem DG.refl (m:Mk):DG m m:=⟨rfl,rfl,fun _ _=>rfl,yR _,fun _ _=>⟨rfl,rfl⟩⟩
theorem DG.trans {a b c:Mk}(h:DG a b)(k:DG b c):DG a c:=
 ⟨k.C.trans h.C,k.ic.trans h.ic,fun i hi=>(k.I i hi).trans (h.I i hi),Nat.le_trans h.len k.len,fun i hi=>by
   have h1:=k.kn i (yL hi h.len)
   have h2:=h.kn i hi
   exact⟨h1.1.trans h2.1,h1.2.trans h2.2⟩⟩
theorem dg_same {m m':Mk}(hC:m'.C=m.C)(hc:m'.h.ic=m.h.ic)(hI: ∀i,i<16→m'.h.I i=m.h.I i)(hd:m'.datas=m.datas):DG m m':=
 ⟨hC,hc,hI,by rw[hd];exact yR _,fun i _=>by unfold Mk.kn;rw[hd];exact⟨rfl,rfl⟩⟩
theorem link_keep (m:Mk)(arr:List Nat)(n fr item:Nat):(Mk.link m arr n fr item).1.datas=m.datas∧(Mk.link m arr n fr item).1.C=m.C∧(Mk.link m arr n fr item).1.h.ic=m.h.ic∧(Mk.link m arr n fr item).1.h.I=m.h.I:=by
 unfold Mk.link
 split<;>exact⟨rfl,rfl,rfl,rfl⟩
theorem dg_object (m:Mk)(l:List Int):DG m (m.object l):=dg_same rfl rfl (fun _ _=>rfl) rfl
theorem dg_linked (m:Mk)(x n:Nat):DG m (Mk.linked m x n):=by
 obtain⟨h1,h2,h3,h4⟩:=link_keep m m.main n 176 x
 exact dg_same h2 h3 (fun i _=>congrFun h4 i) h1
theorem mark_form (e:Nat)(m:Mk)(j:Nat): ∃(c:Nat) (arr:List Nat),(Mk.mark e m j).datas=m.datas.set j {Mk.kn m j with count:=c,arrays:=arr}∧(Mk.mark e m j).C=m.C∧(Mk.mark e m j).h.ic=m.h.ic∧(Mk.mark e m j).h.I=m.h.I:=by
 unfold Mk.mark
 dsimp only
 split
 ·exact⟨_,_,rfl,rfl,rfl,rfl⟩
 ·obtain⟨h1,h2,h3,h4⟩:=link_keep m (Mk.kn m j).arrays ((Mk.kn m j).count-1) ((Mk.kn m j).at_+48) e
  exact⟨_,_,by rw[h1],h2,h3,h4⟩
theorem dg_mark (e:Nat)(m:Mk)(j:Nat):DG m (Mk.mark e m j):=by
 obtain⟨c,arr,hd,hC,hc,hI⟩:=mark_form e m j
 refine⟨hC,hc,fun i _=>congrFun hI i,by rw[hd,List.length_set];exact yR _,fun i hi=>?_⟩
 have hg:Mk.kn (Mk.mark e m j) i=if j=i then {Mk.kn m j with count:=c,arrays:=arr}else Mk.kn m i:=by
  show(Mk.mark e m j).datas.getD i _=_
  rw[hd,List.getD_eq_getElem?_getD,List.getElem?_set]
  by_cases h1:j=i
  ·rw[if_pos h1,if_pos h1,if_pos (by omega)];rfl
  ·rw[if_neg h1,if_neg h1];unfold Mk.kn;rw[List.getD_eq_getElem?_getD]
 rw[hg]
 split
 ·next e=>subst e;exact⟨rfl,rfl⟩
 ·exact⟨rfl,rfl⟩
theorem dg_markAll (e:Nat): ∀(who:List Nat) (m:Mk),DG m (Mk.markAll e m who)
 | [],m=>DG.refl m
 |j::r,m=>(dg_mark e m j).trans (dg_markAll e r (Mk.mark e m j))
theorem dg_told (m:Mk)(n:Nat)(seq real mono:Int)(K:Nat→Int)(te:Nat):DG m (Mk.told m n seq real mono K te):=by
 refine dg_same rfl ?_ (fun i hi=>?_) rfl
 ·unfold Mk.told;dsimp only;split<;>rfl
 ·unfold Mk.told;dsimp only
  rw[if_neg (by omega)]
  split<;>rfl
theorem kn_at {m:Mk}{i:Nat}(hi:i<m.datas.length):Mk.kn m i=m.datas[i]:=by
 unfold Mk.kn;rw[List.getD_eq_getElem?_getD,List.getElem?_eq_getElem hi];rfl
theorem fieldOf_keep (m:Mk)(nm:List Int):(Mk.fieldOf m nm).2.h.ic=m.h.ic∧(Mk.fieldOf m nm).2.h.I=m.h.I:=by
 unfold Mk.fieldOf
 split<;>exact⟨rfl,rfl⟩
theorem dataOf_text {m:Mk}(h:Inv m)(nm s:List Int)(hn:AllB nm)(hnl:nm.length≤64)(hs:AllB s)(hsl:s.length≤400):
 (Mk.kn (Mk.dataOf m nm s).2 (Mk.dataOf m nm s).1).text=s∧DG m (Mk.dataOf m nm s).2:=by
 unfold Mk.dataOf
 cases e:idxK m.datas s with
 |some i=>
  refine⟨?_,DG.refl m⟩
  have hi:=idxK_some e
  unfold idxK at e
  obtain⟨h1,h2,_⟩:=List.findIdx?_eq_some_iff_getElem.1 e
  show(Mk.kn m i).text=s
  rw[kn_at hi]
  simpa using h2
 |none=>
  obtain⟨h1,h2,h3,h4,h5,h6,h7,h8⟩:=inv_dataNew h nm s hn hnl hs hsl
  obtain⟨f1,f2⟩:=fieldOf_keep (Mk.put1 m s) nm
  refine⟨?_,h5,f1,fun i _=>congrFun f2 i,?_,fun i hi=>?_⟩
  ·show(Mk.kn (Mk.dataNew m nm s) m.datas.length).text=s
   unfold Mk.kn
   rw[h4,List.getD_eq_getElem?_getD,List.getElem?_append_right (yR _)]
   simp
  ·show m.datas.length≤(Mk.dataNew m nm s).datas.length
   rw[h4,List.length_append];omega
  ·have e1:Mk.kn (Mk.dataNew m nm s) i=Mk.kn m i:=by
    unfold Mk.kn
    rw[h4,List.getD_eq_getElem?_getD,List.getElem?_append_left hi,List.getD_eq_getElem?_getD]
   show(Mk.kn (Mk.dataNew m nm s) i).at_=_∧(Mk.kn (Mk.dataNew m nm s) i).text=_
   rw[e1]
   exact⟨rfl,rfl⟩
theorem insW_perm (f:Nat→Nat)(who:List Nat)(k:Nat):(insW f who k).Perm (k::who):=by
 have h:=List.perm_middle (a:=k) (l₁:=who.take (posW f (f k) who who.length)) (l₂:=who.drop (posW f (f k) who who.length))
 rw[List.take_append_drop]at h
 exact h
theorem posW_spec (f:Nat→Nat)(x:Nat)(who:List Nat): ∀j,(∀i,posW f x who j≤i→i<j→x<f (who.getD i 0))∧(0<posW f x who j→ ¬x<f (who.getD (posW f x who j-1) 0))
 |0=>⟨fun i _ h=>absurd h (Nat.not_lt_zero i),fun h=>absurd h (Nat.lt_irrefl 0)⟩
 |j+1=>by
  obtain⟨h1,h2⟩:=posW_spec f x who j
  unfold posW
  by_cases h:x<f (who.getD j 0)
  ·rw[if_pos h]
   refine⟨fun i hi hj=>?_,h2⟩
   by_cases e:i=j
   ·rw[e];exact h
   ·exact h1 i hi (by omega)
  ·rw[if_neg h]
   exact⟨fun i hi hj=>by omega,fun _=>h⟩
theorem insW_sorted {f:Nat→Nat}{who:List Nat}{k:Nat}(h:who.Pairwise (fun a b=>f a<f b))(hk: ∀x∈who,f x≠f k):(insW f who k).Pairwise (fun a b=>f a<f b):=by
 obtain⟨s1,s2⟩:=posW_spec f (f k) who who.length
 have hp:=posW_le f (f k) who who.length
 unfold insW
 generalize posW f (f k) who who.length=p at*
 have hs:=h
 rw[←List.take_append_drop p who,List.pairwise_append]at hs
 obtain⟨t1,t2,t3⟩:=hs
 rw[List.pairwise_append,List.pairwise_cons]
 have hgd: ∀i (hi:i<who.length),who.getD i 0=who[i]:=fun i hi=>by simp[List.getElem?_eq_getElem hi]
 refine⟨t1,⟨fun b hb=>?_,t2⟩,fun a ha b hb=>?_⟩
 ·obtain⟨i,hi,e⟩:=List.getElem_of_mem hb
  rw[List.length_drop]at hi
  rw[List.getElem_drop]at e
  have:=s1 (p+i) (by omega) (by omega)
  rw[hgd _ (by omega),e]at this
  exact this
 ·rcases List.mem_cons.1 hb with e|hb
  ·subst e
   obtain⟨i,hi,e⟩:=List.getElem_of_mem ha
   rw[List.length_take]at hi
   rw[List.getElem_take]at e
   have h3:=s2 (by omega)
   rw[hgd _ (by omega)]at h3
   have h4:f who[i]≤f (who[p-1]'(by omega)):=by
    by_cases h5:i=p-1
    ·subst h5;exact yR _
    ·exact Nat.le_of_lt (List.pairwise_iff_getElem.1 h i (p-1) (by omega) (by omega) (by omega))
   have h6:=hk a (List.mem_of_mem_take ha)
   rw[e]at h4
   omega
  ·exact t3 a ha b hb
theorem who_all {m:Mk}{os:List O}{hs:Nat→List Nat}{mi:List Nat}{es:List (Nat×List Int)}(h:Hold m os hs mi es)(I:Inv m)(l:List PR)(hl:PrOk l)(hb:m.b.length≤900000)(hnd:(l.map fun q=>pay q.1 q.2).Nodup): ∀k,k≤l.length→
 DG m (Mk.dataAll m (l.take k)).1∧((Mk.dataAll m (l.take k)).2.map fun i=>(Mk.kn (Mk.dataAll m (l.take k)).1 i).text).Perm ((l.take k).map fun q=>pay q.1 q.2)∧(Mk.dataAll m (l.take k)).2.Pairwise (fun a b=>(Mk.kn (Mk.dataAll m (l.take k)).1 a).at_<(Mk.kn (Mk.dataAll m (l.take k)).1 b).at_)
 |0,_=>⟨DG.refl m,List.Perm.refl _,List.Pairwise.nil⟩
 |k+1,hk=>by
  have hkl:k<l.length:=hk
  obtain⟨g,hp,hw⟩:=who_all h I l hl hb hnd k (by omega)
  obtain⟨i1,i2,i3,i4,i5⟩:=inv_dataAll I l hl.all k (by omega)
  obtain⟨o2,H2⟩:=hold_dataAll h I l hl.all hl.nm hl.len (by omega) (k+1) hk
  obtain⟨j1,j2,j3,j4,j5⟩:=inv_dataAll I l hl.all (k+1) hk
  obtain⟨q1,q2,q3,q4⟩:=hl.all l[k] (List.getElem_mem _)
  have hp4:(pay l[k].1 l[k].2).length≤400:=by rw[Nee.pay_len];omega
  obtain⟨dt,dg⟩:=dataOf_text i1 l[k].1 (pay l[k].1 l[k].2) q1 q3 (pay_all q1 q2) hp4
  have d2:=(inv_dataOf i1 l[k].1 (pay l[k].1 l[k].2) q1 q3 (pay_all q1 q2) hp4).2.1
  have hA:=H2.asc
  rw[dataAll_step m l k (by omega)]at hA⊢
  have hS:l.take (k+1)=l.take k++ [l[k]]:=List.take_succ_eq_append_getElem (by omega)
  have hnin:pay l[k].1 l[k].2∉(l.take k).map fun q=>pay q.1 q.2:=fun hm=>by
   have hn2:=hnd.sublist ((List.take_sublist (k+1) l).map fun q=>pay q.1 q.2)
   rw[hS,List.map_append,List.nodup_append]at hn2
   exact hn2.2.2 _ hm _ (List.mem_singleton_self _) rfl
  generalize Mk.dataAll m (l.take k)=s at*
  obtain⟨md,who⟩:=s
  dsimp only at*
  unfold dataStep at hA⊢
  dsimp only at hA⊢
  generalize Mk.dataOf md l[k].1 (pay l[k].1 l[k].2)=r at*
  obtain⟨y,m2⟩:=r
  dsimp only at*
  have e1:who.map (fun i=>(Mk.kn m2 i).text)=who.map (fun i=>(Mk.kn md i).text):=List.map_congr_left fun x hx=>(dg.kn x (i3 x hx)).2
  refine⟨g.trans dg,?_,?_⟩
  ·refine((insW_perm _ who y).map _).trans ?_
   rw[List.map_cons,dt,e1,hS,List.map_append,List.map_singleton]
   exact(List.Perm.cons _ hp).trans (List.perm_append_singleton _ _).symm
  ·refine insW_sorted (hw.imp_of_mem fun {a b} ha hb2 hab=>?_) fun x hx he=>?_
   ·try dsimp only
    rw[(dg.kn a (i3 a ha)).1,(dg.kn b (i3 b hb2)).1]
    exact hab
   ·have hx2:x<m2.datas.length:=yL (i3 x hx) dg.len
    try dsimp only at he
    have e2:Mk.kn m2 x=Mk.kn m2 y:=by
     rw[kn_at hx2,kn_at d2]at he⊢
     exact hA.inj (List.getElem_mem _) (List.getElem_mem _) he
    refine hnin (hp.mem_iff.1 ?_)
    rw[←e1,←dt,←e2]
    exact List.mem_map.2 ⟨x,hx,rfl⟩
theorem list_nodup {raw:List PR}(h1:listE raw=0):((listL raw).map fun q=>pay q.1 q.2).Nodup:=by
 obtain⟨n16,hok⟩:=list_ok h1
 have hn:(listL raw).Nodup:=by
  unfold listL
  rw[if_pos h1]
  exact(sortP_perm _).nodup_iff.2 (ded_nodup raw)
 rw[List.nodup_iff_pairwise_ne,List.pairwise_map]
 refine(List.nodup_iff_pairwise_ne.1 hn).imp_of_mem fun {a b} ha hb hab he=>hab ?_
 obtain⟨_,a2⟩:=hok a ha
 obtain⟨_,b2⟩:=hok b hb
 obtain⟨_,s2,s3⟩:=split_pay a2
 obtain⟨_,t2,t3⟩:=split_pay b2
 rw[he]at s2 s3
 exact Prod.ext (s2.symm.trans t2) (s3.symm.trans t3)
abbrev RR:=List PR×Int×Int×(Nat→Int)
def EntR (m:Mk)(sq:Int)(r:RR)(body:List Int):Prop:= ∃who:List Nat,(∀x∈who,x<m.datas.length)∧who.Pairwise (fun a b=>(Mk.kn m a).at_<(Mk.kn m b).at_)∧(who.map fun i=>(Mk.kn m i).text).Perm ((listL r.1).map fun q=>pay q.1 q.2)∧
 body=entB sq r.2.1 r.2.2.1 r.2.2.2 ((xr ((listL r.1).map fun q=>pay q.1 q.2):Nat):Int) (prs (fun i=>((Mk.kn m (who.getD i 0)).at_:Int)) (fun i=>Mk.sum m (Mk.kn m (who.getD i 0)).text) who.length)
theorem prs_cong {f g f' g':Nat→Int}{k:Nat}(h: ∀i,i<k→f i=f' i∧g i=g' i):prs f g k=prs f' g' k:=by
 induction k with
 |zero=>rfl
 |succ k ih=>rw[prs_succ,prs_succ,ih (fun i hi=>h i (by omega)),(h k (by omega)).1,(h k (by omega)).2]
theorem getD_lt {who:List Nat}{i:Nat}(hi:i<who.length):who.getD i 0=who[i]:=by simp[List.getElem?_eq_getElem hi]
theorem EntR.dg {m m':Mk}{sq:Int}{r:RR}{body:List Int}(h:EntR m sq r body)(g:DG m m'):EntR m' sq r body:=by
 obtain⟨who,h1,h2,h3,h4⟩:=h
 refine⟨who,fun x hx=>yL (h1 x hx) g.len,h2.imp_of_mem fun {a b} ha hb hab=>?_,?_,?_⟩
 ·rw[(g.kn a (h1 a ha)).1,(g.kn b (h1 b hb)).1];exact hab
 ·rw[List.map_congr_left fun x hx=>(g.kn x (h1 x hx)).2];exact h3
 ·rw[h4]
  congr 1
  refine prs_cong fun i hi=>?_
  rw[getD_lt hi,(g.kn _ (h1 _ (List.getElem_mem hi))).1,(g.kn _ (h1 _ (List.getElem_mem hi))).2,sum_C g.C]
  exact⟨rfl,rfl⟩
structure RROk (r:RR):Prop where
 list:listE r.1=0
 all:AllP r.1
 real:0≤r.2.1∧r.2.1≤18446744073709551615
 mono:0≤r.2.2.1∧r.2.2.1≤18446744073709551615
 K:IdOk r.2.2.2
structure Recs (m:Mk)(rs:List RR)(es:List (Nat×List Int)):Prop where
 len:es.length=rs.length
 ic:m.h.ic=if m.C.keyed then 4 else 0
 I: ∀i,i<16→m.h.I i=m.C.F i
 base:(rs.length:Int)≤m.h.N 9
 top:m.h.N 9≤18446744073709551615
 ok: ∀r∈rs,RROk r
 ent: ∀i (h:i<rs.length) (h2:i<es.length),EntR m (m.h.N 9-rs.length+i+1) rs[i] es[i].2
theorem kept_recs {m:Mk}{rs:List RR}(h:Nu.Reach m rs): ∃os hs mi es,Kept m rs.length os hs mi es∧Recs m rs es:=by
 induction h with
 |mk h after ha=>
  refine⟨_,_,_,_,⟨hold_mk h after,new_good h after ha,rfl,rfl,rfl,List.Pairwise.nil,(fun x hx=>absurd hx List.not_mem_nil),rfl⟩,⟨rfl,rfl,fun i hi=>?_,?_,?_,(fun x hx=>absurd hx List.not_mem_nil),fun i hi=>absurd hi (Nat.not_lt_zero i)⟩⟩
  ·show hdI3 _ i=_
   unfold hdI3
   rw[if_pos hi]
   rfl
  ·show((0:Nat):Int)≤(hdN _ after).N 9
   rw[show(hdN _ after).N 9=after from setN_same _ _ _]
   exact ha.1
  ·show(hdN _ after).N 9≤_
   rw[show(hdN _ after).N 9=after from setN_same _ _ _]
   exact ha.2
 |step h L hP real mono K hr hm hK h0 ih=>
  rename_i m rs
  obtain⟨os,hs,mi,es,k,q⟩:=ih
  have ga:=after_good k.good hP real mono K hr hm hK
  have h1:listE L=0:=by
   unfold Mk.acode at h0
   by_cases h1:listE L=0
   ·exact h1
   ·rw[if_pos h1]at h0;exact absurd h0 h1
  have h9:m.h.N 9≠18446744073709551615:=fun h9=>by
   unfold Mk.acode at h0
   rw[if_neg (by simpa using h1),if_pos h9]at h0
   cases h0
  have ok:=prOk_list hP h1
  have hml:=k.good.img.len
  have hbl:m.b.length≤900000:=by omega
  obtain⟨wd1,wp1,ws1⟩:=who_all k.hold k.good.img.inv (listL L) ok hbl (list_nodup h1) (listL L).length (yR _)
  obtain⟨i1,i2,i3,i4,i5⟩:=inv_dataAll k.good.img.inv (listL L) ok.all (listL L).length (yR _)
  rw[List.take_length]at wd1 wp1 ws1 i3
  obtain⟨o2,H,h11,hle,hlt⟩:=hold_grown k.hold k.good.img.inv (by rw[k.n8,k.len]) ok k.good.img.len real mono K hK
  have e8:=entered_n8 k.good.img.inv k.good.img.hg (listL L) ok.all ok.len k.good.img.len real mono K hr hm hK h9
  have hA:Mk.after m L real mono K=Mk.entered m (listL L) real mono K:=by unfold Mk.after;rw[if_pos h0]
  rw[hA]at ga⊢
  have hb:(Mk.entered m (listL L) real mono K).b=(Mk.grown m (listL L) real mono K).b:=rfl
  have hbd: ∀x∈mi++ [(Mk.dataAll m (listL L)).1.b.length],304≤x∧x<(Mk.grown m (listL L) real mono K).b.length:=fun x hx=>by
   rcases List.mem_append.1 hx with h2|h2
   ·have:=k.bd x h2;omega
   ·rw[List.mem_singleton]at h2
    have:=k.good.img.inv.len
    omega
  have H2:=hold_told H (m.h.N 8).toNat (m.h.N 9+1) real mono K (Mk.dataAll m (listL L)).1.b.length
  have dgA:DG (Mk.dataAll m (listL L)).1 (Mk.entered m (listL L) real mono K):=
   ((dg_object _ _).trans (dg_linked _ _ _)).trans ((dg_markAll _ _ _).trans (dg_told _ _ _ _ _ _ _))
  have dgM:DG m (Mk.entered m (listL L) real mono K):=wd1.trans dgA
  have hN9:(Mk.entered m (listL L) real mono K).h.N 9=m.h.N 9+1:=by
   show(Mk.told _ _ _ _ _ _ _).h.N 9=_
   rw[told_N _ _ _ _ _ _ _ _ (by decide),if_neg (by decide),if_neg (by decide),if_pos rfl]
  have hqb:=q.base
  have hqt:=q.top
  refine⟨o2,_,_,_,⟨H2,ga,?_,?_,?_,?_,hbd,?_⟩,⟨?_,?_,fun i hi=>?_,?_,?_,?_,?_⟩⟩
  ·rw[e8,k.n8,List.length_append];rfl
  ·rw[List.length_append,List.length_append,k.len];rfl
  ·show(Mk.told _ _ _ _ _ _ _).h.N 11=((Mk.told _ _ _ _ _ _ _).main.headD 0:Nat)
   rw[told_N _ _ _ _ _ _ _ _ (by decide),if_neg (by decide),if_neg (by decide),if_neg (by decide),if_neg (by omega),if_neg (by omega)]
   exact h11
  ·rw[List.pairwise_append]
   refine⟨k.rise,by simp,fun a ha2 b hb2=>?_⟩
   rw[List.mem_singleton]at hb2
   have:=k.bd a ha2
   omega
  ·rw[List.map_append,k.ent];rfl
  ·rw[List.length_append,List.length_append,q.len];rfl
  ·rw[dgM.ic,dgM.C];exact q.ic
  ·rw[dgM.I i hi,dgM.C];exact q.I i hi
  ·rw[hN9,List.length_append,List.length_singleton];push_cast;omega
  ·rw[hN9];omega
  ·intro r hr2
   rcases List.mem_append.1 hr2 with h2|h2
   ·exact q.ok r h2
   ·rw[List.mem_singleton]at h2
    subst h2
    exact⟨h1,hP,hr,hm,hK⟩
  ·intro i hi hi2
   rw[hN9,List.length_append,List.length_singleton]
   by_cases hlast:i<rs.length
   ·rw[List.getElem_append_left hlast,List.getElem_append_left (by have:=q.len;omega)]
    have h3:=(q.ent i hlast (by have:=q.len;omega)).dg dgM
    rw[show m.h.N 9+1-((rs.length+1:Nat):Int)+(i:Int)+1=m.h.N 9-(rs.length:Int)+(i:Int)+1 by push_cast;omega]
    exact h3
   ·have hi3:i=rs.length:=by rw[List.length_append,List.length_singleton]at hi;omega
    subst hi3
    have hl:=q.len
    rw[List.getElem_append_right (yR _),List.getElem_append_right (by omega)]
    have h4:EntR (Mk.dataAll m (listL L)).1 (m.h.N 9+1) (L,real,mono,K) (entB (m.h.N 9+1) real mono K ((xr ((listL L).map fun q=>pay q.1 q.2):Nat):Int) (prs (fun i=>((Mk.kn (Mk.dataAll m (listL L)).1 ((Mk.dataAll m (listL L)).2.getD i 0)).at_:Int)) (fun i=>Mk.sum (Mk.dataAll m (listL L)).1 (Mk.kn (Mk.dataAll m (listL L)).1 ((Mk.dataAll m (listL L)).2.getD i 0)).text) (Mk.dataAll m (listL L)).2.length)):=
     ⟨_,i3,ws1,wp1,rfl⟩
    have h5:=h4.dg dgA
    rw[show m.h.N 9+1-((rs.length+1:Nat):Int)+(rs.length:Int)+1=m.h.N 9+1 by push_cast;omega]
    simpa using h5
end Zj
namespace Ra
open Bytes8 Blk8 OwnE Ga Gb Ma Mb Na Nt Nu
open Go1 (HTold)
theorem hcells_len (h:HD):(Tryz.prog.info? 39).map (·.size)=some (h.cells 21).length:=by rw[headInfo];simp[HD.len]
theorem whole {w:World}{g:Nat}{T:TypeId}{h:HD}{m:Nat}(hb:Blk w g (h.cells m) T):w.rangeAt g 0 (h.cells m):=fun j v hj=>by rw[Nat.zero_add];exact hb.cell hj
theorem cut_hu (A:Option Addr)(len cap hi:Nat)(h2:hi≤cap)(hh:hi≤1000000)(w:World):
 (Instr.slice 24 (.slice A len cap) none (some (.int .u64 (hi:Int))) none).run Tryz.prog w= .ok (.slice (cutA A cap 0) hi cap) w:=by
 have ht:Tryz.prog.underlying 24=some (.slice (Tryz.prog.elem 24)):=by rw[elem8];exact Tryz.underlying24
 rw[run_slice_h w 24 A len cap ht .u64 hi (by omega) (by omega),elem8,sizeof8]
 unfold sliced cutA
 by_cases hc:cap=0
 ·simp[hc]
 ·simp[hc]
def viewC (h:HD)(b:Value):List Value:=h.cells 21++ [b]
theorem view_built (h:HD)(b:Value)(A:Option Addr)(n c:Nat)(e:b= .slice A n c):Tryz.prog.built 160 [(0,.agg (h.cells 21).toArray),(1,b)]=some (viewC h b).toArray:=by subst e;kernel_rfl
def bldV (parts:Array (Nat×Value)):Sem Value:=Instr.build 160 parts
theorem bldV_fold (parts:Array (Nat×Value)):Instr.build 160 parts=bldV parts:=rfl
theorem build_view (h:HD)(A:Option Addr)(n c:Nat)(w:World):(bldV #[(0,.agg (h.cells 21).toArray),(1,.slice A n c)]).run Tryz.prog w= .ok (.agg (viewC h (.slice A n c)).toArray) w:=by
 unfold bldV
 exact run_build w _ _ _ (view_built h _ A n c rfl)
attribute [local irreducible] HD.cells wpList Code.wp
attribute [local go_sem ↓] bldV_fold
end Ra
namespace Lk
open Bytes8 Blk8 Own8 OwnE Rows2 Ga Gb Ma Mb Na Ra
attribute [local irreducible] HD.cells wpList Code.wp
theorem view_head {w:World}{gv:Nat}{h:HD}{b:Value}(hv:Blk w gv (viewC h b) 160):w.rangeAt gv 0 (h.cells 21):=fun j x hj=>by
 rw[Nat.zero_add]
 refine hv.cell ?_
 unfold viewC
 rw[List.getElem?_append_left (List.getElem?_eq_some_iff.1 hj).1]
 exact hj
theorem vhead_any {gv:Nat}{h:HD}{b:Value}(w:World)(hv:Blk w gv (viewC h b) 160):Calls Tryz.prog 106 #[.pointer (some ⟨gv,0,none⟩)] w fun e w'=>e= .returned (.agg (h.cells 21).toArray)∧Below w.heap.size w w':=by
 have b1:=yH ((Below.refl w.heap.size w).alloc (yR _) (.cells Tryz.zeroCells39 39))
 have HR:=yH (view_head (hv.below b1.out hv.lt))
 have Z:=yH (heap_alloc_new w (.cells Tryz.zeroCells39 39))
 clear hv
 go_enter Tryz.func106,Tryz.ntmps106
 go_wp2_with(first
  |((with_reducible apply at_slot 6);refine wpList_load_mid rfl 39 (.tmp 5) rfl gv 0 rfl (h.cells 21) _ HR.out Tryz.underlying39 rfl (hcells_len _) ?_)
  |((with_reducible apply at_store (.tmp 2) (.tmp 6));refine wpList_store_row rfl 39 (.tmp 2) (.tmp 6) rfl w.heap.size (h.cells 21).toArray rfl rfl 39 Tryz.zeroCells39 Z.out (cells_info _) zeros_size (HD.one _ 21) ?_)
  |fail)
 refine bodyPost_ret (v:= .agg (h.cells 21).toArray) (by exact results_cell_row Tryz.results106 _ _ w.heap.size 39 _ (0,0) _ rfl (setRow_heap _ w.heap.size _ _ _ (0,0) Z.out) Tryz.underlying39 rfl (cells_info _)) rfl ?_
 exact⟨rfl,below_setRow b1.out (yR _) _⟩
end Lk
namespace Vg
open Bytes8 Blk8 Own8
theorem xor8 {x y:Int}(hx:0≤x∧x<256)(hy:0≤y∧y<256):0≤bits .xor .u8 x y∧bits .xor .u8 x y<256:=by
 obtain⟨a,rfl⟩: ∃a:Nat,x=(a:Int):=⟨x.toNat,by omega⟩
 obtain⟨b,rfl⟩: ∃b:Nat,y=(b:Int):=⟨y.toNat,by omega⟩
 rw[u8_xor_nat a b (by omega) (by omega)]
 have:=Nat.xor_lt_two_pow (n:=8) (x:=a) (y:=b) (by omega) (by omega)
 omega
theorem own_cell {w:World}{base g n c:Nat}{l:List Int}(h:Own8.Own w base (some ⟨g,0,none⟩) n c l)(i:Nat)(hi:i<n):w.cell? ⟨g,i,none⟩=some (.int .u8 (l.getD i 0)):=by
 obtain⟨b,off,e,_,hc⟩:=h.bytes.2 i (by rw[h.2.1];exact hi)
 injection e with e
 injection e with e1 e2
 subst e1 e2
 rw[Nat.zero_add]at hc
 exact hc
theorem own_fz {w:World}{base g n c:Nat}{l:List Int}(h:Own8.Own w base (some ⟨g,0,none⟩) n c l)(i:Nat)(hi:i<n):w.frozen? ⟨g,i,none⟩=false:=by
 rcases h.2.2.2.2 with⟨h1,h2⟩|⟨k,cap,cur,h1,h2,h3,h4⟩
 ·cases h1
 ·injection h1 with e1 e2 e3
  injection e1 with e1
  injection e1 with e1
  subst e1
  simp[World.frozen?,h3]
theorem own_set {w:World}{base g n c:Nat}{l:List Int}(h:Own8.Own w base (some ⟨g,0,none⟩) n c l)(i:Nat){x:Int}(h0:0≤x)(h1:x<256):Own8.Own (w.setCell ⟨g,i,none⟩ (.int .u8 x)) base (some ⟨g,0,none⟩) n c (l.set i x):=by
 refine⟨h.1.set i h0 h1,by rw[List.length_set];exact h.2.1,by simpa using h.2.2.1,?_⟩
 have:=(h.2.2.2.stored i (.int .u8 x)).1
 rw[List.map_set]
 exact this
attribute [local irreducible] wpList Code.wp
end Vg
end Go.Proofs.YtiddkgcafpaekaaGreat
