/-
  Texts beneath the proof.
-/
import Derived.Test.YtjecmgkmcfkcjaaGreatQh23
import Derived.Test.YtjecmgkmcfkcjaaGreatQh28
set_option linter.unusedVariables false
set_option linter.unusedSimpArgs false
set_option maxRecDepth 100000
namespace Go.Proofs.YtjecmgkmcfkcjaaGreat
namespace Zg
open Bytes8 Blk8 Ya Ob Ga Ma Mb Mg Na Nb Nc Nh Nl Np Fc Nq Ns Nt Nu Fa Yd Yc Za Zb Zc Zd Ze Zf Pr8 Ps8 Pl8
theorem prs_zeros (n:Nat):prs (fun _=>0) (fun _=>0) n=List.replicate (2*n) 0:=by
 induction n with
 |zero=>rfl
 |succ n ih=>
  rw[show prs (fun _=>0) (fun _=>0) (n+1)=prs (fun _=>0) (fun _=>0) n++ [0,0]by simp[prs,List.range_succ],ih,show 2*(n+1)=2*n+2 by omega,←List.replicate_append_replicate]
  rfl
def tabO (k:Int)(n i:Nat):O:=⟨k,List.replicate (2*n) 0,[],(0,i)⟩
theorem tabO_enc (k:Int)(n i:Nat):(tabO k n i).enc=Np.tabB k n:=by
 unfold O.enc O.body tabO Np.tabB
 rw[List.append_nil,prs_zeros]
theorem tabO_ok {k:Int}(n i:Nat)(hk:1≤k∧k≤7)(hn:n≤64):(tabO k n i).Ok:=
 {k:=hk
  ws:=fun x hx=>by rw[List.eq_of_mem_replicate hx];decide
  tl:=fun x hx=>by cases hx
  n:=by
   rw[O.body_len]
   show 8*(List.replicate (2*n) (0:Int)).length+0≤_
   rw[List.length_replicate];omega}
theorem hold_mk {C:Cf}(h:CfOk C)(after:Int):Hold (Mk.new C after) [tabO 4 C.ds 0,tabO 5 C.fs 1] (fun _=>[]) [] []:=by
 have hds:=h.ds
 have hfs:=h.fs
 have o1:=tabO_ok (k:=4) C.ds 0 (by decide) hds.2
 have o2:=tabO_ok (k:=5) C.fs 1 (by decide) hfs.2
 have n1:(tabO 4 C.ds 0).n=16+16*C.ds:=by
  show(tabO 4 C.ds 0).enc.length=_
  rw[tabO_enc,tabB_len]
 have hz: ∀(k:Int) (n i j:Nat),(tabO k n i).ws.getD j 0=0:=fun k n i j=>by
  show(List.replicate (2*n) (0:Int)).getD j 0=0
  rw[List.getD_eq_getElem?_getD,List.getElem?_replicate]
  split<;>rfl
 have e4:obj 272 [tabO 4 C.ds 0,tabO 5 C.fs 1] 272=some (tabO 4 C.ds 0):=rfl
 have e5:obj 272 [tabO 4 C.ds 0,tabO 5 C.fs 1] (288+16*C.ds)=some (tabO 5 C.fs 1):=by
  show(if 288+16*C.ds=272 then _ else if 288+16*C.ds=272+(tabO 4 C.ds 0).n then _ else _)=_
  rw[if_neg (by omega),if_pos (by omega)]
 have hw: ∀a j,wd [tabO 4 C.ds 0,tabO 5 C.fs 1] a j=0:=fun a j=>by
  unfold wd
  show(match (if a=272 then some (tabO 4 C.ds 0)else if a=272+(tabO 4 C.ds 0).n then some (tabO 5 C.fs 1)else none)with|some o=>o.ws.getD j 0|none=>0)=0
  by_cases h1:a=272
  ·rw[if_pos h1];exact hz _ _ _ _
  ·rw[if_neg h1]
   by_cases h2:a=272+(tabO 4 C.ds 0).n
   ·rw[if_pos h2];exact hz _ _ _ _
   ·rw[if_neg h2]
 exact
  {rep:=by
    refine⟨⟨?_,?_⟩,?_⟩
    ·show 272≤(z272++Np.tabB 4 C.ds++Np.tabB 5 C.fs).length
     rw[List.length_append,List.length_append]
     unfold z272
     rw[List.length_replicate];omega
    ·show(z272++Np.tabB 4 C.ds++Np.tabB 5 C.fs).drop 272=_
     rw[List.append_assoc,List.drop_append]
     unfold z272
     rw[List.length_replicate,List.drop_of_length_le (by rw[List.length_replicate];omega),Nat.sub_self,List.drop_zero,List.nil_append,enc_cons,enc_cons,tabO_enc,tabO_enc]
     simp[enc]
    ·intro o ho
     simp at ho
     rcases ho with rfl|rfl
     ·exact o1
     ·exact o2
   td:=⟨⟨(0,0),by unfold shp;rw[e4];show some (Sh.mk 4 (List.replicate (2*C.ds) (0:Int)).length [] (0,0))=_;rw[List.length_replicate];rfl⟩,fun s _=>by rw[hw];rfl,fun s _=>by rw[hw];rfl⟩
   tf:=⟨⟨(0,1),by
    unfold shp
    show Option.map O.sh (obj 272 _ (288+16*C.ds))=_
    rw[e5];show some (Sh.mk 5 (List.replicate (2*C.fs) (0:Int)).length [] (0,1))=_;rw[List.length_replicate];rfl⟩,fun s _=>by rw[hw];rfl,fun s _=>by rw[hw];rfl⟩
   dat:=fun i hi=>absurd hi (Nat.not_lt_zero _)
   fld:=fun i hi=>absurd hi (Nat.not_lt_zero _)
   asc:=List.Pairwise.nil,ascF:=List.Pairwise.nil
   ownF:=fun d hd=>by cases hd
   dtx:=List.Pairwise.nil,ftx:=List.Pairwise.nil,none:=fun _ _=>rfl
   mn:=ArrW.nil _ _
   ent:=fun i hi=>absurd hi (Nat.not_lt_zero _)
   cov:=fun x s hx=>by
    obtain⟨o,ho,_⟩:=shp_some hx
    have ho2:(if x=272 then some (tabO 4 C.ds 0)else if x=272+(tabO 4 C.ds 0).n then some (tabO 5 C.fs 1)else none)=some o:=ho
    by_cases h1:x=272
    ·exact .inl h1
    ·rw[if_neg h1]at ho2
     by_cases h2:x=272+(tabO 4 C.ds 0).n
     ·exact .inr (.inl (by show x=288+16*C.ds;omega))
     ·rw[if_neg h2]at ho2;cases ho2}
def hsAll (e:Nat)(hs:Nat→List Nat)(who:List Nat):Nat→List Nat:=who.foldl (fun h j i=>if i=j then h j++ [e]else h i) hs
theorem hold_markAll {L0:Nat}{m:Mk}{os:List O}{hs:Nat→List Nat}{mi:List Nat}{es:List (Nat×List Int)}(h:Hold m os hs mi es)(I:InvM L0 0 m)(e:Nat)(who:List Nat)(hw: ∀x∈who,x<m.datas.length)(h16:who.length≤16)(hb:m.b.length≤900000)(hL:L0≤900000)(he:e≤10000000): ∀i,i≤who.length→ ∃os',Hold (Mk.markAll e m (who.take i)) os' (hsAll e hs (who.take i)) mi es
 |0,_=>by
  rw[show Mk.markAll e m (who.take 0)=m by rw[List.take_zero];rfl,show hsAll e hs (who.take 0)=hs by rw[List.take_zero];rfl]
  exact⟨os,h⟩
 |i+1,hi=>by
  obtain⟨o1,h1⟩:=hold_markAll h I e who hw h16 hb hL he i (by omega)
  obtain⟨k1,k2,k3,k4,k5,k6,k7⟩:=inv_markAll I e who hw h16 i (by omega)
  rw[markAll_step e m who i (by omega),show hsAll e hs (who.take (i+1))=(fun x=>if x=who[i]then hsAll e hs (who.take i) who[i]++ [e]else hsAll e hs (who.take i) x)by
   unfold hsAll
   rw[List.take_succ_eq_append_getElem (by omega),List.foldl_append]
   rfl]
  exact hold_mark h1 (by omega) (by rw[k4];exact hw _ (List.getElem_mem _)) he (fun k hk=>by have:=k1.cnt k hk;omega)
theorem mark_keep (e:Nat)(m:Mk)(j:Nat):(Mk.mark e m j).main=m.main∧(Mk.mark e m j).h.N 11=m.h.N 11:=by
 unfold Mk.mark
 dsimp only
 split
 ·exact⟨rfl,rfl⟩
 ·unfold Mk.link
  split
  ·refine⟨rfl,?_⟩
   show(setN (setN (setN m.h 6 _) 7 _) 18 _).N 11=_
   rw[setN_ne _ _ _ _ (by decide),setN_ne _ _ _ _ (by decide),setN_ne _ _ _ _ (by decide)]
  ·exact⟨rfl,rfl⟩
theorem markAll_keep (e:Nat): ∀(who:List Nat) (m:Mk),(Mk.markAll e m who).main=m.main∧(Mk.markAll e m who).h.N 11=m.h.N 11
 | [],m=>⟨rfl,rfl⟩
 |j::who,m=>by
  obtain⟨a1,a2⟩:=markAll_keep e who (Mk.mark e m j)
  obtain⟨b1,b2⟩:=mark_keep e m j
  exact⟨a1.trans b1,a2.trans b2⟩
theorem entB_all {s r mo x:Int}{K:Nat→Int}(hK:IdOk K)(ps:List Int):AllB (entB s r mo K x ps):=by
 unfold entB
 exact(((nums_all _).app (idL_all hK)).app (nums_all _)).app (nums_all _)
theorem name_61 {n:List Int}(h:nmB n=true): ∀x∈n,x≠61:=fun x hx=>by
 unfold nmB at h
 simp only[Bool.and_eq_true]at h
 have h1:=List.all_eq_true.1 h.2 x hx
 intro e
 subst e
 exact absurd h1 (by decide)
theorem codes_all: ∀(l:List PR),codeL l=0→ ∀q∈l,flawI q.1 q.2=0
 | [],_,q,hq=>by cases hq
 |p::r,h,q,hq=>by
  unfold codeL at h
  split at h
  ·next h0=>
   rcases List.mem_cons.1 hq with rfl|hq
   ·exact h0
   ·exact codes_all r h q hq
  ·next h0=>exact absurd h h0
theorem list_ok {raw:List PR}(h:listE raw=0):(listL raw).length≤16∧ ∀q∈listL raw,q∈raw∧flawI q.1 q.2=0:=by
 have hL:listL raw=sortP (ded raw):=if_pos h
 unfold listE at h
 split at h
 ·cases h
 ·split at h
  ·next hc=>
   split at h
   ·next h16=>
    rw[hL,sortP_len]
    refine⟨h16,fun q hq=>?_⟩
    have hq2:=(ded_mem raw q).1 ((sortP_mem _ _).1 hq)
    exact⟨hq2,codes_all _ hc q hq2⟩
   ·cases h
  ·next hc=>exact absurd h hc
structure PrOk (L:List PR):Prop where
 all: ∀q∈L,AllB q.1∧AllB q.2∧q.1.length≤64∧q.2.length≤256
 nm: ∀q∈L,∀x∈q.1,x≠61
 len:L.length≤16
theorem prOk_list {raw:List PR}(hP:AllP raw)(h1:listE raw=0):PrOk (listL raw):=by
 obtain⟨n16,hok⟩:=list_ok h1
 refine⟨fun q hq=>?_,fun q hq=>?_,n16⟩
 ·obtain⟨a1,a2⟩:=hok q hq
  have a3:=hP q a1
  have a4:=flaw_len a2
  exact⟨a3.1,a3.2.1,a4.1,a4.2⟩
 ·obtain⟨a1,a2⟩:=hok q hq
  unfold flawI at a2
  by_cases h2:nmB q.1=true
  ·exact name_61 h2
  ·rw[if_neg h2]at a2;cases a2
theorem hold_grown {m:Mk}{os:List O}{hs:Nat→List Nat}{mi:List Nat}{es:List (Nat×List Int)}(h:Hold m os hs mi es)(I:Inv m)(h8:m.h.N 8=(mi.length:Nat)){L:List PR}(hl:PrOk L)(hb:m.b.length≤32768)(real mono:Int)(K:Nat→Int)(hK:IdOk K):
 ∃os',Hold (Mk.grown m L real mono K) os' (hsAll (Mk.dataAll m L).1.b.length hs (Mk.dataAll m L).2) (mi++ [(Mk.dataAll m L).1.b.length]) (es++ [((Mk.dataAll m L).1.b.length,entB (m.h.N 9+1) real mono K ((xr (L.map fun q=>pay q.1 q.2):Nat):Int) (prs (fun i=>((Mk.kn (Mk.dataAll m L).1 ((Mk.dataAll m L).2.getD i 0)).at_:Int)) (fun i=>Mk.sum (Mk.dataAll m L).1 (Mk.kn (Mk.dataAll m L).1 ((Mk.dataAll m L).2.getD i 0)).text) (Mk.dataAll m L).2.length))])∧
  (Mk.grown m L real mono K).h.N 11=((Mk.grown m L real mono K).main.headD 0:Nat)∧m.b.length≤(Mk.dataAll m L).1.b.length∧(Mk.dataAll m L).1.b.length<(Mk.grown m L real mono K).b.length:=by
 obtain⟨i1,i2,i3,i4,i5⟩:=inv_dataAll I L hl.all L.length (Nat.le_refl _)
 obtain⟨o1,H1⟩:=hold_dataAll h I L hl.all hl.nm hl.len (by omega) L.length (Nat.le_refl _)
 rw[List.take_length]at i1 i2 i3 i4 i5 H1
 have hl16:=hl.len
 unfold Mk.grown
 dsimp only
 generalize hmd:Mk.dataAll m L=s at*
 obtain⟨md,who⟩:=s
 dsimp only at*
 obtain⟨n8,hn8,hch8,hn8b⟩:=i1.mn
 have hel:(Mk.eobj md who (L.map fun q=>pay q.1 q.2) (m.h.N 9+1) real mono K).length%8=0∧0<(Mk.eobj md who (L.map fun q=>pay q.1 q.2) (m.h.N 9+1) real mono K).length∧(Mk.eobj md who (L.map fun q=>pay q.1 q.2) (m.h.N 9+1) real mono K).length≤400∧64≤(Mk.eobj md who (L.map fun q=>pay q.1 q.2) (m.h.N 9+1) real mono K).length:=by
  have e:=eobj_len md who (L.map fun q=>pay q.1 q.2) (m.h.N 9+1) real mono K
  omega
 obtain⟨e1,e2,e3,e4⟩:=hel
 have H2:=hold_ent H1 (body:=entB (m.h.N 9+1) real mono K ((xr (L.map fun q=>pay q.1 q.2):Nat):Int) (prs (fun i=>((Mk.kn md (who.getD i 0)).at_:Int)) (fun i=>Mk.sum md (Mk.kn md (who.getD i 0)).text) who.length)) (entB_all hK _) (by rw[entB_len];omega)
 have heo:Mk.eobj md who (L.map fun q=>pay q.1 q.2) (m.h.N 9+1) real mono K=objB 3 (entB (m.h.N 9+1) real mono K ((xr (L.map fun q=>pay q.1 q.2):Nat):Int) (prs (fun i=>((Mk.kn md (who.getD i 0)).at_:Int)) (fun i=>Mk.sum md (Mk.kn md (who.getD i 0)).text) who.length)):=rfl
 rw[←heo]at H2
 have I2:=inv_object i1 _ e1 e2
 have hol:=object_len md (Mk.eobj md who (L.map fun q=>pay q.1 q.2) (m.h.N 9+1) real mono K)
 generalize Mk.eobj md who (L.map fun q=>pay q.1 q.2) (m.h.N 9+1) real mono K=eo at*
 generalize entB (m.h.N 9+1) real mono K ((xr (L.map fun q=>pay q.1 q.2):Nat):Int) (prs (fun i=>((Mk.kn md (who.getD i 0)).at_:Int)) (fun i=>Mk.sum md (Mk.kn md (who.getD i 0)).text) who.length)=body at*
 have hC2:Chain (md.object eo).b.length (md.object eo).main n8:=hch8.mono (by omega)
 have hn2:(md.object eo).h.N 8=(n8:Int):=hn8
 have h304:=i1.len
 have e8:(m.h.N 8).toNat=n8:=by rw[←i5.n8,hn8];rfl
 have e9:mi.length=n8:=by omega
 rw[e8,←e9]
 obtain⟨o3,H3⟩:=hold_linked H2 (by omega) (item:=md.b.length) (by omega)
 obtain⟨g1,g2,g3,g4,g5,g6,g7⟩:=inv_linked I2 md.b.length n8 hn2 hC2 (by omega) (by omega)
 rw[←e9]at g1 g2 g3 g4 g5 g6 g7
 have h11:(Mk.linked (md.object eo) md.b.length mi.length).h.N 11=(((Mk.linked (md.object eo) md.b.length mi.length).main.headD 0:Nat):Int):=by
  show(setN (Mk.link (md.object eo) (md.object eo).main mi.length 176 md.b.length).1.h 11 _).N 11=_
  rw[setN_same]
  show(((Mk.link (md.object eo) (md.object eo).main mi.length 176 md.b.length).2.1.getD 0 0:Nat):Int)=(((Mk.link (md.object eo) (md.object eo).main mi.length 176 md.b.length).2.1.headD 0:Nat):Int)
  cases(Mk.link (md.object eo) (md.object eo).main mi.length 176 md.b.length).2.1<;>rfl
 generalize Mk.linked (md.object eo) md.b.length mi.length=mL at*
 have hM0:InvM md.b.length 0 mL:=⟨g1,fun k' hk'=>by rw[g4]at hk';exact(i1.dat k' hk').2.2.2.2,by omega⟩
 have hw: ∀y∈who,y<mL.datas.length:=fun y hy=>by rw[g4];exact i3 y hy
 obtain⟨k1,k2,k3,k4,k5,k6,k7⟩:=inv_markAll hM0 md.b.length who hw (by omega) who.length (Nat.le_refl _)
 obtain⟨o4,H4⟩:=hold_markAll H3 hM0 md.b.length who hw (by omega) (by omega) (by omega) (by omega) who.length (Nat.le_refl _)
 rw[List.take_length]at k1 k2 k3 k4 k5 k6 k7 H4
 obtain⟨y1,y2⟩:=markAll_keep md.b.length who mL
 exact⟨o4,H4,by rw[y2,y1];exact h11,i5.len,by omega⟩
theorem hold_told {m:Mk}{os:List O}{hs:Nat→List Nat}{mi:List Nat}{es:List (Nat×List Int)}(H:Hold m os hs mi es)(n:Nat)(seq real mono:Int)(K:Nat→Int)(te:Nat):Hold (Mk.told m n seq real mono K te) os hs mi es:=
 {rep:=H.rep,td:=H.td,tf:=H.tf
  dat:=fun i hi=>(H.dat i hi).stp rfl (Stp.refl os (fun _ _=>False)) (fun _ _ _ h=>h) (fun _ _ _ _ _ h=>h)
  fld:=fun i hi=>by
   have F:=H.fld i hi
   exact {sh:=F.sh,w0:=F.w0,slot:=F.slot,fol:=F.fol}
  asc:=H.asc,ascF:=H.ascF,ownF:=H.ownF,dtx:=H.dtx,ftx:=H.ftx,none:=H.none,mn:=H.mn,ent:=H.ent,cov:=H.cov}
structure Kept (m:Mk)(n:Nat)(os:List O)(hs:Nat→List Nat)(mi:List Nat)(es:List (Nat×List Int)):Prop where
 hold:Hold m os hs mi es
 good:Nu.Good m
 n8:m.h.N 8=(n:Int)
 len:mi.length=n
 n11:m.h.N 11=(m.main.headD 0:Nat)
 rise:mi.Pairwise (· < ·)
 bd: ∀x∈mi,304≤x∧x<m.b.length
 ent:es.map Prod.fst=mi
end Zg
namespace Zj
open Bytes8 Blk8 Ya Ga Ma Mb Mg Na Nb Nc Nh Nl Np Nq Ns Nt Nu Fa Yd Yc Za Zb Zc Zd Ze Zf Zg Pr8 Ps8 Pl8
structure DG (m m':Mk):Prop where
 C:m'.C=m.C
 ic:m'.h.ic=m.h.ic
 I: ∀i,i<16→m'.h.I i=m.h.I i
 len:m.datas.length≤m'.datas.length
 kn: ∀i,i<m.datas.length→(Mk.kn m' i).at_=(Mk.kn m i).at_∧(Mk.kn m' i).text=(Mk.kn m i).text
theorem DG.refl (m:Mk):DG m m:=⟨rfl,rfl,fun _ _=>rfl,Nat.le_refl _,fun _ _=>⟨rfl,rfl⟩⟩
theorem DG.trans {a b c:Mk}(h:DG a b)(k:DG b c):DG a c:=
 ⟨k.C.trans h.C,k.ic.trans h.ic,fun i hi=>(k.I i hi).trans (h.I i hi),Nat.le_trans h.len k.len,fun i hi=>by
   have h1:=k.kn i (Nat.lt_of_lt_of_le hi h.len)
   have h2:=h.kn i hi
   exact⟨h1.1.trans h2.1,h1.2.trans h2.2⟩⟩
theorem dg_same {m m':Mk}(hC:m'.C=m.C)(hc:m'.h.ic=m.h.ic)(hI: ∀i,i<16→m'.h.I i=m.h.I i)(hd:m'.datas=m.datas):DG m m':=
 ⟨hC,hc,hI,by rw[hd];exact Nat.le_refl _,fun i _=>by unfold Mk.kn;rw[hd];exact⟨rfl,rfl⟩⟩
theorem link_keep (m:Mk)(arr:List Nat)(n fr item:Nat):(Mk.link m arr n fr item).1.datas=m.datas∧(Mk.link m arr n fr item).1.C=m.C∧(Mk.link m arr n fr item).1.h.ic=m.h.ic∧(Mk.link m arr n fr item).1.h.I=m.h.I:=by
 unfold Mk.link
 split<;>exact⟨rfl,rfl,rfl,rfl⟩
theorem dg_object (m:Mk)(l:List Int):DG m (m.object l):=dg_same rfl rfl (fun _ _=>rfl) rfl
theorem dg_linked (m:Mk)(x n:Nat):DG m (Mk.linked m x n):=by
 obtain⟨h1,h2,h3,h4⟩:=link_keep m m.main n 176 x
 exact dg_same h2 h3 (fun i _=>congrFun h4 i) h1
theorem mark_form (e:Nat)(m:Mk)(j:Nat): ∃(c:Nat) (arr:List Nat),(Mk.mark e m j).datas=m.datas.set j {Mk.kn m j with count:=c,arrays:=arr}∧(Mk.mark e m j).C=m.C∧(Mk.mark e m j).h.ic=m.h.ic∧(Mk.mark e m j).h.I=m.h.I:=by
 unfold Mk.mark
 dsimp only
 split
 ·exact⟨_,_,rfl,rfl,rfl,rfl⟩
 ·obtain⟨h1,h2,h3,h4⟩:=link_keep m (Mk.kn m j).arrays ((Mk.kn m j).count-1) ((Mk.kn m j).at_+48) e
  exact⟨_,_,by rw[h1],h2,h3,h4⟩
theorem dg_mark (e:Nat)(m:Mk)(j:Nat):DG m (Mk.mark e m j):=by
 obtain⟨c,arr,hd,hC,hc,hI⟩:=mark_form e m j
 refine⟨hC,hc,fun i _=>congrFun hI i,by rw[hd,List.length_set];exact Nat.le_refl _,fun i hi=>?_⟩
 have hg:Mk.kn (Mk.mark e m j) i=if j=i then {Mk.kn m j with count:=c,arrays:=arr}else Mk.kn m i:=by
  show(Mk.mark e m j).datas.getD i _=_
  rw[hd,List.getD_eq_getElem?_getD,List.getElem?_set]
  by_cases h1:j=i
  ·rw[if_pos h1,if_pos h1,if_pos (by omega)];rfl
  ·rw[if_neg h1,if_neg h1];unfold Mk.kn;rw[List.getD_eq_getElem?_getD]
 rw[hg]
 split
 ·next e=>subst e;exact⟨rfl,rfl⟩
 ·exact⟨rfl,rfl⟩
theorem dg_markAll (e:Nat): ∀(who:List Nat) (m:Mk),DG m (Mk.markAll e m who)
 | [],m=>DG.refl m
 |j::r,m=>(dg_mark e m j).trans (dg_markAll e r (Mk.mark e m j))
theorem dg_told (m:Mk)(n:Nat)(seq real mono:Int)(K:Nat→Int)(te:Nat):DG m (Mk.told m n seq real mono K te):=by
 refine dg_same rfl ?_ (fun i hi=>?_) rfl
 ·unfold Mk.told;dsimp only;split<;>rfl
 ·unfold Mk.told;dsimp only
  rw[if_neg (by omega)]
  split<;>rfl
theorem kn_at {m:Mk}{i:Nat}(hi:i<m.datas.length):Mk.kn m i=m.datas[i]:=by
 unfold Mk.kn;rw[List.getD_eq_getElem?_getD,List.getElem?_eq_getElem hi];rfl
theorem fieldOf_keep (m:Mk)(nm:List Int):(Mk.fieldOf m nm).2.h.ic=m.h.ic∧(Mk.fieldOf m nm).2.h.I=m.h.I:=by
 unfold Mk.fieldOf
 split<;>exact⟨rfl,rfl⟩
theorem dataOf_text {m:Mk}(h:Inv m)(nm s:List Int)(hn:AllB nm)(hnl:nm.length≤64)(hs:AllB s)(hsl:s.length≤400):
 (Mk.kn (Mk.dataOf m nm s).2 (Mk.dataOf m nm s).1).text=s∧DG m (Mk.dataOf m nm s).2:=by
 unfold Mk.dataOf
 cases e:idxK m.datas s with
 |some i=>
  refine⟨?_,DG.refl m⟩
  have hi:=idxK_some e
  unfold idxK at e
  obtain⟨h1,h2,_⟩:=List.findIdx?_eq_some_iff_getElem.1 e
  show(Mk.kn m i).text=s
  rw[kn_at hi]
  simpa using h2
 |none=>
  obtain⟨h1,h2,h3,h4,h5,h6,h7,h8⟩:=inv_dataNew h nm s hn hnl hs hsl
  obtain⟨f1,f2⟩:=fieldOf_keep (Mk.put1 m s) nm
  refine⟨?_,h5,f1,fun i _=>congrFun f2 i,?_,fun i hi=>?_⟩
  ·show(Mk.kn (Mk.dataNew m nm s) m.datas.length).text=s
   unfold Mk.kn
   rw[h4,List.getD_eq_getElem?_getD,List.getElem?_append_right (Nat.le_refl _)]
   simp
  ·show m.datas.length≤(Mk.dataNew m nm s).datas.length
   rw[h4,List.length_append];omega
  ·have e1:Mk.kn (Mk.dataNew m nm s) i=Mk.kn m i:=by
    unfold Mk.kn
    rw[h4,List.getD_eq_getElem?_getD,List.getElem?_append_left hi,List.getD_eq_getElem?_getD]
   show(Mk.kn (Mk.dataNew m nm s) i).at_=_∧(Mk.kn (Mk.dataNew m nm s) i).text=_
   rw[e1]
   exact⟨rfl,rfl⟩
theorem insW_perm (f:Nat→Nat)(who:List Nat)(k:Nat):(insW f who k).Perm (k::who):=by
 have h:=List.perm_middle (a:=k) (l₁:=who.take (posW f (f k) who who.length)) (l₂:=who.drop (posW f (f k) who who.length))
 rw[List.take_append_drop]at h
 exact h
theorem posW_spec (f:Nat→Nat)(x:Nat)(who:List Nat): ∀j,(∀i,posW f x who j≤i→i<j→x<f (who.getD i 0))∧(0<posW f x who j→ ¬x<f (who.getD (posW f x who j-1) 0))
 |0=>⟨fun i _ h=>absurd h (Nat.not_lt_zero i),fun h=>absurd h (Nat.lt_irrefl 0)⟩
 |j+1=>by
  obtain⟨h1,h2⟩:=posW_spec f x who j
  unfold posW
  by_cases h:x<f (who.getD j 0)
  ·rw[if_pos h]
   refine⟨fun i hi hj=>?_,h2⟩
   by_cases e:i=j
   ·rw[e];exact h
   ·exact h1 i hi (by omega)
  ·rw[if_neg h]
   exact⟨fun i hi hj=>by omega,fun _=>h⟩
theorem insW_sorted {f:Nat→Nat}{who:List Nat}{k:Nat}(h:who.Pairwise (fun a b=>f a<f b))(hk: ∀x∈who,f x≠f k):(insW f who k).Pairwise (fun a b=>f a<f b):=by
 obtain⟨s1,s2⟩:=posW_spec f (f k) who who.length
 have hp:=posW_le f (f k) who who.length
 unfold insW
 generalize posW f (f k) who who.length=p at*
 have hs:=h
 rw[←List.take_append_drop p who,List.pairwise_append]at hs
 obtain⟨t1,t2,t3⟩:=hs
 rw[List.pairwise_append,List.pairwise_cons]
 have hgd: ∀i (hi:i<who.length),who.getD i 0=who[i]:=fun i hi=>by simp[List.getElem?_eq_getElem hi]
 refine⟨t1,⟨fun b hb=>?_,t2⟩,fun a ha b hb=>?_⟩
 ·obtain⟨i,hi,e⟩:=List.getElem_of_mem hb
  rw[List.length_drop]at hi
  rw[List.getElem_drop]at e
  have:=s1 (p+i) (by omega) (by omega)
  rw[hgd _ (by omega),e]at this
  exact this
 ·rcases List.mem_cons.1 hb with e|hb
  ·subst e
   obtain⟨i,hi,e⟩:=List.getElem_of_mem ha
   rw[List.length_take]at hi
   rw[List.getElem_take]at e
   have h3:=s2 (by omega)
   rw[hgd _ (by omega)]at h3
   have h4:f who[i]≤f (who[p-1]'(by omega)):=by
    by_cases h5:i=p-1
    ·subst h5;exact Nat.le_refl _
    ·exact Nat.le_of_lt (List.pairwise_iff_getElem.1 h i (p-1) (by omega) (by omega) (by omega))
   have h6:=hk a (List.mem_of_mem_take ha)
   rw[e]at h4
   omega
  ·exact t3 a ha b hb
theorem who_all {m:Mk}{os:List O}{hs:Nat→List Nat}{mi:List Nat}{es:List (Nat×List Int)}(h:Hold m os hs mi es)(I:Inv m)(l:List PR)(hl:PrOk l)(hb:m.b.length≤900000)(hnd:(l.map fun q=>pay q.1 q.2).Nodup): ∀k,k≤l.length→
 DG m (Mk.dataAll m (l.take k)).1∧((Mk.dataAll m (l.take k)).2.map fun i=>(Mk.kn (Mk.dataAll m (l.take k)).1 i).text).Perm ((l.take k).map fun q=>pay q.1 q.2)∧(Mk.dataAll m (l.take k)).2.Pairwise (fun a b=>(Mk.kn (Mk.dataAll m (l.take k)).1 a).at_<(Mk.kn (Mk.dataAll m (l.take k)).1 b).at_)
 |0,_=>⟨DG.refl m,List.Perm.refl _,List.Pairwise.nil⟩
 |k+1,hk=>by
  have hkl:k<l.length:=hk
  obtain⟨g,hp,hw⟩:=who_all h I l hl hb hnd k (by omega)
  obtain⟨i1,i2,i3,i4,i5⟩:=inv_dataAll I l hl.all k (by omega)
  obtain⟨o2,H2⟩:=hold_dataAll h I l hl.all hl.nm hl.len (by omega) (k+1) hk
  obtain⟨j1,j2,j3,j4,j5⟩:=inv_dataAll I l hl.all (k+1) hk
  obtain⟨q1,q2,q3,q4⟩:=hl.all l[k] (List.getElem_mem _)
  have hp4:(pay l[k].1 l[k].2).length≤400:=by rw[Nee.pay_len];omega
  obtain⟨dt,dg⟩:=dataOf_text i1 l[k].1 (pay l[k].1 l[k].2) q1 q3 (pay_all q1 q2) hp4
  have d2:=(inv_dataOf i1 l[k].1 (pay l[k].1 l[k].2) q1 q3 (pay_all q1 q2) hp4).2.1
  have hA:=H2.asc
  rw[dataAll_step m l k (by omega)]at hA⊢
  have hS:l.take (k+1)=l.take k++ [l[k]]:=List.take_succ_eq_append_getElem (by omega)
  have hnin:pay l[k].1 l[k].2∉(l.take k).map fun q=>pay q.1 q.2:=fun hm=>by
   have hn2:=hnd.sublist ((List.take_sublist (k+1) l).map fun q=>pay q.1 q.2)
   rw[hS,List.map_append,List.nodup_append]at hn2
   exact hn2.2.2 _ hm _ (List.mem_singleton_self _) rfl
  generalize Mk.dataAll m (l.take k)=s at*
  obtain⟨md,who⟩:=s
  dsimp only at*
  unfold dataStep at hA⊢
  dsimp only at hA⊢
  generalize Mk.dataOf md l[k].1 (pay l[k].1 l[k].2)=r at*
  obtain⟨y,m2⟩:=r
  dsimp only at*
  have e1:who.map (fun i=>(Mk.kn m2 i).text)=who.map (fun i=>(Mk.kn md i).text):=List.map_congr_left fun x hx=>(dg.kn x (i3 x hx)).2
  refine⟨g.trans dg,?_,?_⟩
  ·refine((insW_perm _ who y).map _).trans ?_
   rw[List.map_cons,dt,e1,hS,List.map_append,List.map_singleton]
   exact(List.Perm.cons _ hp).trans (List.perm_append_singleton _ _).symm
  ·refine insW_sorted (hw.imp_of_mem fun {a b} ha hb2 hab=>?_) fun x hx he=>?_
   ·try dsimp only
    rw[(dg.kn a (i3 a ha)).1,(dg.kn b (i3 b hb2)).1]
    exact hab
   ·have hx2:x<m2.datas.length:=Nat.lt_of_lt_of_le (i3 x hx) dg.len
    try dsimp only at he
    have e2:Mk.kn m2 x=Mk.kn m2 y:=by
     rw[kn_at hx2,kn_at d2]at he⊢
     exact hA.inj (List.getElem_mem _) (List.getElem_mem _) he
    refine hnin (hp.mem_iff.1 ?_)
    rw[←e1,←dt,←e2]
    exact List.mem_map.2 ⟨x,hx,rfl⟩
theorem list_nodup {raw:List PR}(h1:listE raw=0):((listL raw).map fun q=>pay q.1 q.2).Nodup:=by
 obtain⟨n16,hok⟩:=list_ok h1
 have hn:(listL raw).Nodup:=by
  unfold listL
  rw[if_pos h1]
  exact(sortP_perm _).nodup_iff.2 (ded_nodup raw)
 rw[List.nodup_iff_pairwise_ne,List.pairwise_map]
 refine(List.nodup_iff_pairwise_ne.1 hn).imp_of_mem fun {a b} ha hb hab he=>hab ?_
 obtain⟨_,a2⟩:=hok a ha
 obtain⟨_,b2⟩:=hok b hb
 obtain⟨_,s2,s3⟩:=split_pay a2
 obtain⟨_,t2,t3⟩:=split_pay b2
 rw[he]at s2 s3
 exact Prod.ext (s2.symm.trans t2) (s3.symm.trans t3)
abbrev RR:=List PR×Int×Int×(Nat→Int)
def EntR (m:Mk)(sq:Int)(r:RR)(body:List Int):Prop:= ∃who:List Nat,(∀x∈who,x<m.datas.length)∧who.Pairwise (fun a b=>(Mk.kn m a).at_<(Mk.kn m b).at_)∧(who.map fun i=>(Mk.kn m i).text).Perm ((listL r.1).map fun q=>pay q.1 q.2)∧
 body=entB sq r.2.1 r.2.2.1 r.2.2.2 ((xr ((listL r.1).map fun q=>pay q.1 q.2):Nat):Int) (prs (fun i=>((Mk.kn m (who.getD i 0)).at_:Int)) (fun i=>Mk.sum m (Mk.kn m (who.getD i 0)).text) who.length)
theorem prs_cong {f g f' g':Nat→Int}{k:Nat}(h: ∀i,i<k→f i=f' i∧g i=g' i):prs f g k=prs f' g' k:=by
 induction k with
 |zero=>rfl
 |succ k ih=>rw[prs_succ,prs_succ,ih (fun i hi=>h i (by omega)),(h k (by omega)).1,(h k (by omega)).2]
theorem getD_lt {who:List Nat}{i:Nat}(hi:i<who.length):who.getD i 0=who[i]:=by simp[List.getElem?_eq_getElem hi]
theorem EntR.dg {m m':Mk}{sq:Int}{r:RR}{body:List Int}(h:EntR m sq r body)(g:DG m m'):EntR m' sq r body:=by
 obtain⟨who,h1,h2,h3,h4⟩:=h
 refine⟨who,fun x hx=>Nat.lt_of_lt_of_le (h1 x hx) g.len,h2.imp_of_mem fun {a b} ha hb hab=>?_,?_,?_⟩
 ·rw[(g.kn a (h1 a ha)).1,(g.kn b (h1 b hb)).1];exact hab
 ·rw[List.map_congr_left fun x hx=>(g.kn x (h1 x hx)).2];exact h3
 ·rw[h4]
  congr 1
  refine prs_cong fun i hi=>?_
  rw[getD_lt hi,(g.kn _ (h1 _ (List.getElem_mem hi))).1,(g.kn _ (h1 _ (List.getElem_mem hi))).2,sum_C g.C]
  exact⟨rfl,rfl⟩
structure RROk (r:RR):Prop where
 list:listE r.1=0
 all:AllP r.1
 real:0≤r.2.1∧r.2.1≤18446744073709551615
 mono:0≤r.2.2.1∧r.2.2.1≤18446744073709551615
 K:IdOk r.2.2.2
structure Recs (m:Mk)(rs:List RR)(es:List (Nat×List Int)):Prop where
 len:es.length=rs.length
 ic:m.h.ic=if m.C.keyed then 4 else 0
 I: ∀i,i<16→m.h.I i=m.C.F i
 base:(rs.length:Int)≤m.h.N 9
 top:m.h.N 9≤18446744073709551615
 ok: ∀r∈rs,RROk r
 ent: ∀i (h:i<rs.length) (h2:i<es.length),EntR m (m.h.N 9-rs.length+i+1) rs[i] es[i].2
end Zj
namespace Zw
end Zw
namespace Zy
open Bytes8 Ga Ma Mb Mg Na Nc Nh Nl Np Nq Nt Nu Fa Zg Zj Pr8 Pl8
def addN (acc:List (List Int))(t:List Int):List (List Int):=if t∈acc then acc else acc++ [t]
abbrev tx (m:Mk):List (List Int):=m.datas.map Kn.text
def paysL (l:List PR):List (List Int):=l.map fun q=>pay q.1 q.2
def allP (rs:List RR):List (List Int):=rs.flatMap fun r=>paysL (listL r.1)
theorem addN_mem (acc:List (List Int))(t x:List Int):x∈addN acc t↔x∈acc∨x=t:=by
 unfold addN
 split
 ·next h=>
  constructor
  ·exact .inl
  ·rintro(h1|rfl)
   ·exact h1
   ·exact h
 ·rw[List.mem_append,List.mem_singleton]
theorem fold_mem: ∀(l acc:List (List Int)) (x:List Int),x∈l.foldl addN acc↔x∈acc∨x∈l
 | [],acc,x=>by simp
 |t::l,acc,x=>by
  show x∈l.foldl addN (addN acc t)↔_
  rw[fold_mem l,addN_mem,List.mem_cons,or_assoc]
theorem idxK_mem (l:List Kn)(s:List Int):(∃i,idxK l s=some i)↔s∈l.map Kn.text:=by
 unfold idxK
 constructor
 ·rintro⟨i,h⟩
  obtain⟨h1,h2,_⟩:=List.findIdx?_eq_some_iff_getElem.1 h
  exact List.mem_map.2 ⟨l[i],List.getElem_mem _,by simpa using h2⟩
 ·intro h
  obtain⟨k,hk,e⟩:=List.mem_map.1 h
  cases hf:l.findIdx? (fun k=>k.text==s)with
  |some i=>exact⟨i,rfl⟩
  |none=>
   rw[List.findIdx?_eq_none_iff]at hf
   have:=hf k hk
   rw[e]at this
   simp at this
def FT (m:Mk)(S:List Int→Prop):Prop:= ∀f∈m.fields,S f.text
theorem tx_dataOf (m:Mk)(nm s:List Int){S:List Int→Prop}(h:FT m S)(hn:S nm):tx (Mk.dataOf m nm s).2=addN (tx m) s∧FT (Mk.dataOf m nm s).2 S:=by
 unfold Mk.dataOf
 cases e:idxK m.datas s with
 |some i=>
  refine⟨?_,h⟩
  unfold addN
  rw[if_pos ((idxK_mem _ _).1 ⟨i,e⟩)]
 |none=>
  have hno: ¬s∈tx m:=fun h1=>by
   obtain⟨i,hi⟩:=(idxK_mem _ _).2 h1
   rw[e]at hi;cases hi
  unfold addN
  rw[if_neg hno]
  unfold Mk.dataNew Mk.put2 Mk.fieldOf
  cases e2:findK (Mk.put1 m s).fields nm with
  |some k=>
   refine⟨?_,h⟩
   show(m.datas++ [_]).map Kn.text=_
   rw[List.map_append]
   rfl
  |none=>
   refine⟨?_,fun f hf=>?_⟩
   ·show(m.datas++ [_]).map Kn.text=_
    rw[List.map_append]
    rfl
   ·have hf2:f∈m.fields++ [(⟨nm,_,_,0,[]⟩:Kn)]:=hf
    rcases List.mem_append.1 hf2 with h1|h1
    ·exact h f h1
    ·rw[List.mem_singleton]at h1
     rw[h1];exact hn
theorem tx_dataAll (m:Mk)(l:List PR){S:List Int→Prop}(h:FT m S)(hn: ∀q∈l,S q.1):tx (Mk.dataAll m l).1=(paysL l).foldl addN (tx m)∧FT (Mk.dataAll m l).1 S:=by
 have: ∀(l:List PR) (s:Mk×List Nat),FT s.1 S→(∀q∈l,S q.1)→tx (l.foldl dataStep s).1=(paysL l).foldl addN (tx s.1)∧FT (l.foldl dataStep s).1 S:=by
  intro l
  induction l with
  |nil=>exact fun s h _=>⟨rfl,h⟩
  |cons q r ih=>
   intro s h hn
   obtain⟨h1,h2⟩:=tx_dataOf s.1 q.1 (pay q.1 q.2) h (hn q (List.mem_cons_self ..))
   obtain⟨h3,h4⟩:=ih (dataStep s q) h2 (fun x hx=>hn x (List.mem_cons_of_mem _ hx))
   refine⟨?_,h4⟩
   show tx (r.foldl dataStep (dataStep s q)).1=(paysL r).foldl addN (addN (tx s.1) (pay q.1 q.2))
   rw[h3]
   exact congrArg (fun z=>(paysL r).foldl addN z) h1
 exact this l (m,[]) h hn
theorem tx_mark (e:Nat)(m:Mk)(j:Nat):tx (Mk.mark e m j)=tx m∧(Mk.mark e m j).fields=m.fields:=by
 obtain⟨c,arr,hd,_⟩:=mark_form e m j
 constructor
 ·show((Mk.mark e m j).datas).map Kn.text=_
  rw[hd]
  refine List.ext_getElem (by simp) fun i h1 h2=>?_
  rw[List.getElem_map,List.getElem_map,List.getElem_set]
  split
  ·next e2=>
   subst e2
   have hj:j<m.datas.length:=by simpa using h2
   show(Mk.kn m j).text=_
   rw[kn_at hj]
  ·rfl
 ·unfold Mk.mark
  dsimp only
  split
  ·rfl
  ·unfold Mk.link
   split<;>rfl
theorem tx_markAll (e:Nat): ∀(who:List Nat) (m:Mk),tx (Mk.markAll e m who)=tx m∧(Mk.markAll e m who).fields=m.fields
 | [],m=>⟨rfl,rfl⟩
 |j::r,m=>by
  obtain⟨h1,h2⟩:=tx_mark e m j
  obtain⟨h3,h4⟩:=tx_markAll e r (Mk.mark e m j)
  exact⟨h3.trans h1,h4.trans h2⟩
theorem tx_linked (m:Mk)(x n:Nat):tx (Mk.linked m x n)=tx m∧(Mk.linked m x n).fields=m.fields:=by
 unfold Mk.linked Mk.link
 dsimp only
 split<;>exact⟨rfl,rfl⟩
theorem flaw_name {n v:List Int}(h:flawI n v=0):nmB n=true:=by
 unfold flawI at h
 by_cases h2:nmB n=true
 ·exact h2
 ·rw[if_neg h2]at h;cases h
theorem tx_reach {m:Mk}{rs:List RR}(h:Nu.Reach m rs):tx m=(allP rs).foldl addN []∧FT m (fun t=> ∃r∈rs,∃q∈listL r.1,t=q.1)∧ ∀r∈rs,listE r.1=0:=by
 induction h with
 |mk h after ha=>exact⟨rfl,(fun f hf=>absurd hf List.not_mem_nil),(fun r hr=>absurd hr List.not_mem_nil)⟩
 |step h L hP real mono K hr hm hK h0 ih=>
  rename_i m rs
  obtain⟨i1,i2,i3⟩:=ih
  have hE:listE L=0:=by
   unfold Mk.acode at h0
   by_cases h1:listE L=0
   ·exact h1
   ·rw[if_pos h1]at h0;exact absurd h0 h1
  unfold Mk.after
  rw[if_pos h0]
  obtain⟨d1,d2⟩:=tx_dataAll m (listL L) (S:=fun t=> ∃r∈rs++ [(L,real,mono,K)],∃q∈listL r.1,t=q.1)
   (fun f hf=>by
     obtain⟨r,hr,q,hq,e⟩:=i2 f hf
     exact⟨r,List.mem_append.2 (.inl hr),q,hq,e⟩)
   (fun q hq=>⟨_,List.mem_append.2 (.inr (List.mem_singleton.2 rfl)),q,hq,rfl⟩)
  unfold Mk.entered Mk.grown
  dsimp only
  obtain⟨a1,a2⟩:=tx_markAll (Mk.dataAll m (listL L)).1.b.length (Mk.dataAll m (listL L)).2 (Mk.linked ((Mk.dataAll m (listL L)).1.object (Mk.eobj (Mk.dataAll m (listL L)).1 (Mk.dataAll m (listL L)).2 ((listL L).map fun q=>pay q.1 q.2) (m.h.N 9+1) real mono K)) (Mk.dataAll m (listL L)).1.b.length (m.h.N 8).toNat)
  obtain⟨b1,b2⟩:=tx_linked ((Mk.dataAll m (listL L)).1.object (Mk.eobj (Mk.dataAll m (listL L)).1 (Mk.dataAll m (listL L)).2 ((listL L).map fun q=>pay q.1 q.2) (m.h.N 9+1) real mono K)) (Mk.dataAll m (listL L)).1.b.length (m.h.N 8).toNat
  refine⟨?_,fun f hf=>?_,fun r hr2=>?_⟩
  ·refine(a1.trans b1).trans (Eq.trans d1 ?_)
   rw[i1]
   unfold allP
   rw[List.flatMap_append,List.foldl_append]
   simp
  ·refine d2 f ?_
   have h1:=a2.trans b2
   have hf2:f∈(Mk.markAll (Mk.dataAll m (listL L)).1.b.length (Mk.linked ((Mk.dataAll m (listL L)).1.object (Mk.eobj (Mk.dataAll m (listL L)).1 (Mk.dataAll m (listL L)).2 ((listL L).map fun q=>pay q.1 q.2) (m.h.N 9+1) real mono K)) (Mk.dataAll m (listL L)).1.b.length (m.h.N 8).toNat) (Mk.dataAll m (listL L)).2).fields:=hf
   rw[h1]at hf2
   exact hf2
  ·rcases List.mem_append.1 hr2 with h1|h1
   ·exact i3 r h1
   ·rw[List.mem_singleton]at h1
    rw[h1];exact hE
theorem tx_full {m:Mk}{rs:List RR}(h:Nu.Reach m rs):(∀d∈m.datas,d.text≠ [])∧ ∀f∈m.fields,f.text≠ []:=by
 obtain⟨h1,h2,h3⟩:=tx_reach h
 constructor
 ·intro d hd e
  have h4:d.text∈tx m:=List.mem_map.2 ⟨d,hd,rfl⟩
  rw[h1,fold_mem]at h4
  rcases h4 with h4|h4
  ·cases h4
  ·obtain⟨r,_,hx⟩:=List.mem_flatMap.1 h4
   obtain⟨q,_,e2⟩:=List.mem_map.1 hx
   rw[e]at e2
   unfold pay at e2
   simp at e2
 ·intro f hf e
  obtain⟨r,hr,q,hq,e2⟩:=h2 f hf
  have h4:=flaw_name ((list_ok (h3 r hr)).2 q hq).2
  rw[←e2,e]at h4
  cases h4
end Zy
end Go.Proofs.YtjecmgkmcfkcjaaGreat
