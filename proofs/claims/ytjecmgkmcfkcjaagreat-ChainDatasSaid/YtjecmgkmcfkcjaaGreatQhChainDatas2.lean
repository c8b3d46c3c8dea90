/-
  Texts beneath the proof.
-/
import Derived.Test.YtjecmgkmcfkcjaaGreatQhChainDatas1
set_option linter.unusedVariables false
set_option linter.unusedSimpArgs false
set_option maxRecDepth 100000
set_option maxHeartbeats 8000000
open Go.ChangeShapes Go.WideShapes Go.ChangeAt Go.RowKit
namespace Go.Proofs.YtjecmgkmcfkcjaaGreat
namespace Nus
open Ga Ma Mc Mg Mh Gb Na Nc Nh Nl Pr8 Np Nq Nrs Nt
theorem told_snoc {rs:List (List PR×Int×Int×(Nat→Int))}{L:List PR}{x:Int×Int×(Nat→Int)}(h: ∀r∈rs,Nrs.Told r.1)(hL:Nrs.Told L): ∀r∈rs++ [(L,x)],Nrs.Told r.1:=fun r hr=>by
 rcases List.mem_append.1 hr with h1|h1
 ·exact h r h1
 ·rw[List.mem_singleton]at h1
  subst h1
  exact hL
attribute [local irreducible] Mk.cells HD.cells Cf.cells wpList Code.wp
end Nus
namespace Nuc
open Bytes8 Blk8 Own8 OwnA OwnE Rows2 Ob Od Ga Ma Kf Mb Mc Md Mf Mg Mh Mi Fb Dc Gb Na Nc Nd Nf Nh Nk Nl Nm No Pr8 Ni Np Nq Nr Nrs Nrc Nu Ns Nt Seq8
def CapX (xs:List Value):Prop:= ∀i,20*i+19<xs.length→ ∃(Ar:Option Addr) (nr cr:Nat),xs[20*i+19]? =some (.slice Ar nr cr)∧nr≤cr∧cr≤maxLen
theorem capx_snoc {xs:List Value}(h:CapX xs){n:Nat}(hl:xs.length=n*20){s r m:Int}{K:Nat→Int}{Ar:Option Addr}{nr cr:Nat}(hc:nr≤cr∧cr≤maxLen):CapX (xs++recL s r m K (.slice Ar nr cr)):=fun i hi=>by
 have h20:(recL s r m K (.slice Ar nr cr)).length=20:=rfl
 rw[List.length_append,h20]at hi
 by_cases h1:20*i+19<xs.length
 ·rw[List.getElem?_append_left h1]
  exact h i h1
 ·have e:i=n:=by omega
  subst e
  rw[List.getElem?_append_right (by omega),show 20*i+19-xs.length=19 by omega]
  exact⟨Ar,nr,cr,rfl,hc⟩
structure LMC (wr:World)(B0 B g gq:Nat)(a:Option Addr)(len cap:Nat)(f:Nat→Int)(A:Option Addr)(n c:Nat)(w:World)(mo:Nat):Prop where
 jr: ∃p m rs xs b0,At wr B g p m∧GoodN m n mo∧(∀k,ownB A=some k→ ¬p.foot g k)∧Rws wr B A n c xs∧Nu.Reach m rs∧rs.length=n∧m.h.N 9=b0+(n:Int)∧RowsR wr gq (p.foot g) A xs b0 rs∧(∀r∈rs,Nrs.Told r.1)∧CapX xs
 sq: ∃k,SeqIn wr gq a len cap f k
 kp:KeptB B0 gq w wr
def MadeRC (gq mo:Nat)(w:World)(e:Ending)(w':World):Prop:= ∃(g:Nat) (A:Option Addr) (n c B:Nat) (p:Pl) (m:Mk) (rs:List (List PR×Int×Int×(Nat→Int))) (xs:List Value) (b0:Int),e= .returned (.tuple #[.pointer (some ⟨g,0,none⟩),.slice A n c])∧w.heap.size≤B∧At w' B g p m∧GoodN m n mo∧KeptB w.heap.size gq w w'∧Rws w' B A n c xs∧Nu.Reach m rs∧rs.length=n∧m.h.N 9=b0+(n:Int)∧RowsR w' gq (p.foot g) A xs b0 rs∧(∀r∈rs,Nrs.Told r.1)∧CapX xs
attribute [local irreducible] Mk.cells HD.cells Cf.cells wpList Code.wp
theorem makerR_anyC (gq:Nat)(a:Option Addr)(len cap:Nat)(f:Nat→Int)(k:Nat)(mo:Nat)(w:World)(h:SeqIn w gq a len cap f k)(hmo:mo≤1000):
 Calls Tryz.prog 28 #[.pointer (some ⟨gq,0,none⟩),.int .i64 (mo:Int)] w (MadeRC gq mo w):=by
 have hgq:=h.1.lt
 have Q0:=Lib.hid h
 have HW0:=Lib.hid (show 0<len→ ∀b off,a=some ⟨b,off,none⟩→b<w.heap.size from fun h0 b off e=>by obtain⟨b',off',e',h1,_⟩:=h.2.1 0 h0;rw[e]at e';injection e' with e';injection e' with e';omega)
 have HC:=Lib.hid (config_any gq a len cap f k w h)
 have HS:=Lib.hid fun(b:Int) (h1:1≤b) (h2:b≤1000000) (j:Nat) (W:World) (hW:SeqIn W gq a len cap f j)=>seqN_at gq a len cap f j b W h1 h2 hW
 have HNm:=Lib.hid fun(C:Cf) (x:Int) (W:World) (hds:0<C.ds∧C.ds≤64) (hfs:0<C.fs∧C.fs≤64)=>newmaker_any C x W hds hfs
 clear h
 go_enter Tryz.func28,Tryz.ntmps28
 go_upto_region 2 with(first
  |(go_at_call 82;(with_reducible refine HC.out.mono ?_);rintro e w1 ⟨C,rfl,hok1,hq1,hk1⟩;have HOk:=Lib.hid hok1;have Q1:=Lib.hid hq1;have K1:=Lib.hid hk1;clear hok1 hq1 hk1)
  |((with_reducible apply at_store (.tmp 6) (.tmp 13));refine wpList_store_row rfl 161 (.tmp 6) (.tmp 13) rfl w1.heap.size (Cf.cells C).toArray rfl rfl 161 zC (heap_alloc_new w1 _) (cf_info _) (cf_zeros _) (Cf.one _) ?_)
  |fail)
 have R2:=Lib.hid (show Blk ((w1.alloc (.cells zC 161)).setRow w1.heap.size (Cf.cells C).toArray) w1.heap.size (Cf.cells C) 161 from setRow_heap _ _ _ _ _ (0,0) (heap_alloc_new w1 _))
 have B2:=Lib.hid (show Below w1.heap.size w1 ((w1.alloc (.cells zC 161)).setRow w1.heap.size (Cf.cells C).toArray)from below_setRow ((Below.refl _ _).alloc (Nat.le_refl _) _) (Nat.le_refl _) _)
 generalize (w1.alloc (.cells zC 161)).setRow w1.heap.size (Cf.cells C).toArray=w2 at*
 have Q2:=Lib.hid (Q1.out.below B2.out)
 have K2:=Lib.hid (K1.out.trans (KeptB.of_below (B2.out.mono K1.out.size)))
 have hs2:=R2.out.lt
 have hgs:gq<w1.heap.size:=Q1.out.1.lt
 generalize w1.heap.size=s at*
 clear Q0 HC Q1 K1 B2
 have Q2d:=Lib.hid (Q2.out.below (Below.refl _ _).drew)
 have K2d:=Lib.hid (K2.out.drew)
 have R2d:=Lib.hid (R2.out.drew)
 have hs2d:s<w2.drew.heap.size:=hs2
 have S2:=Lib.hid (show w2.drew.rangeAt s 0 (Cf.cells C)from fun j v hj=>by rw[Nat.zero_add];exact R2.out.cell hj)
 refine wp_region_noPanic ?_
 refine wp_region_held_drew (S:=fun W:World=>W.rangeAt s 0 (Cf.cells C)) (by kernel_rfl) (by exact S2.out) (fun hHeld=>?_)
 refine tk (i:=0) (oi:=⟨some 14,_,_,_,_,_⟩) rfl (yieldsIf_load_mid (by rfl) _ _ rfl _ _ rfl _ _ (fun _ h=>h) Tryz.underlying161 rfl (Cf.info C)) ?_
 try simp only[Act.put,sA,sZ,sS]
 refine tk (i:=1) (oi:=⟨some 15,_,_,_,_,_⟩) (v:=?_) rfl (Or.inl ⟨by rfl,?_⟩) ?_
 rotate_left
 ·intro W hSw;go_simp;try (with_reducible rfl)
 try simp only[Act.put,sA,sZ,sS]
 refine wpAnyH_ready (rs:=[2]) (by kernel_rfl) (by simp) ?_
 refine AllReadyH.cons (o:=⟨some 16,_,_,_,_,_⟩) rfl (fun K hK=>?_) AllReadyH.nil
 go_simp
 (refine(HS.out 6 (by decide) (by decide) _ _ Q2d.out).mono ?_);rintro e w3 ⟨r6,rfl,hr6,hq3,hk3⟩;have hwr6:IntKind.u64.wrap (r6:Int)=(r6:Int):=by {rw[IntKind.wrap_u64];omega};have Q3:=Lib.hid hq3;have K3:=Lib.hid (K2d.out.trans (hk3.mono K2d.out.size));have R3:=Lib.hid (Seq8.Blk.keptB R2d.out hk3 hs2d (Nat.ne_of_gt hgs));have S3:=Lib.hid (show w3.rangeAt s 0 (Cf.cells C)from fun j v hj=>by {rw[Nat.zero_add];exact R3.out.cell hj});clear hq3 hk3
 try go_wp2_with fail
 refine hK.out _ _ (by exact S3.out) (fun hHeld=>?_)
 clear hK K
 try simp only[Act.put,sA,sZ,sS]
 refine tk (i:=3) (oi:=⟨some 17,_,_,_,_,_⟩) (v:=?_) rfl (Or.inl ⟨by rfl,?_⟩) ?_
 rotate_left
 ·intro W hSw;go_simp;try (with_reducible rfl)
 try simp only[Act.put,sA,sZ,sS]
 refine wpAnyH_ready (rs:=[4]) (by kernel_rfl) (by simp) ?_
 refine AllReadyH.cons (o:=⟨some 18,_,_,_,_,_⟩) rfl (fun K hK=>?_) AllReadyH.nil
 go_simp
 (refine(HNm.out C _ _ HOk.out.ds HOk.out.fs).mono ?_);rintro e w4 ⟨g,rfl,⟨p4,hat4⟩,hb4⟩;have B4:=Lib.hid hb4;have S4:=Lib.hid (show w4.rangeAt s 0 (Cf.cells C)from fun j v hj=>by {rw[Nat.zero_add];exact(R3.out.below hb4 R3.out.lt).cell hj});clear hb4
 try go_wp2_with fail
 refine hK.out _ _ (by exact S4.out) (fun hHeld=>?_)
 clear hK K
 try simp only[Act.put,sA,sZ,sS]
 refine tk (i:=5) (oi:=⟨some 7,_,_,_,_,_⟩) (v:=?_) rfl (Or.inl ⟨by rfl,?_⟩) ?_
 rotate_left
 ·intro W hSw;go_simp;try (with_reducible rfl)
 try simp only[Act.put,sA,sZ,sS]
 refine wpAnyH_done (by kernel_rfl) ?_ _
 refine NoPanic.normal ?_
 have HAt:=Lib.hid hat4
 have Q4:=Lib.hid (Q3.out.below B4.out)
 have K4:=Lib.hid (K3.out.trans (KeptB.of_below (B4.out.mono K3.out.size)))
 have hBw:w.heap.size≤w3.heap.size:=K3.out.size
 have HG0:=Lib.hid (show Nu.Reach (Mk.new C (r6:Int)) []from Nu.Reach.mk HOk.out _ (by omega))
 have HG:=Lib.hid (show GoodN (Mk.new C (r6:Int)) 0 mo from⟨(new_good HOk.out _ (by omega)).img,(new_good HOk.out _ (by omega)).most,rfl,Nat.zero_le _,[],Nu.Reach.mk HOk.out _ (by omega),rfl⟩)
 generalize Mk.new C (r6:Int)=m0 at*
 generalize w3.heap.size=B at*
 clear hat4 Q2 K2 R2 hs2 Q2d S2 K2d R2d hs2d HNm HS HOk hwr6 hr6 hgs
 go_upto_region 4 with fail
 have hL0:=Lib.hid (show LMC w4 w.heap.size B g gq a len cap f none 0 0 w mo from by
  have hr0:=HG0.out
  exact⟨⟨p4,m0,[],[],m0.h.N 9,HAt.out,HG.out,(fun k h=>by cases h),⟨OwnE.nil _ _ (by have:=(HAt.out.lt g (.inl rfl));omega),fun _=>rfl,fun h=>absurd h (by decide)⟩,hr0,rfl,(Int.add_zero _).symm,⟨rfl,fun i hi=>absurd hi (Nat.not_lt_zero _)⟩,(fun r hr=>absurd hr List.not_mem_nil),fun i hi=>absurd hi (Nat.not_lt_zero _)⟩,⟨_,Q4.out⟩,K4.out⟩)
 clear HAt HG HG0 Q4 K4
 go_loopw [8] (fun a8 wr=> ∃(A:Option Addr) (n c:Nat),a8= .slice A n c∧n≤mo∧Hid (LMC wr w.heap.size B g gq a len cap f A n c w mo)) (fun a8 _=>mo-slen a8)
 case atStart=>exact⟨none,0,0,rfl,Nat.zero_le _,hL0⟩
 case round=>
  obtain⟨A,n,c,rfl,hn,hL⟩:=hrel
  obtain⟨⟨p,m,rs,xs,b0,hat,hgd,hoff,hout,hrch,hrl,hn9,hrow,htd,hcx⟩,⟨k,hsq⟩,hkp⟩:=hL.out
  have HCx:=Lib.hid hcx
  have HTd:=Lib.hid htd
  have HRch:=Lib.hid hrch
  have HRl:=Lib.hid hrl
  have HN9:=Lib.hid hn9
  have HRow:=Lib.hid hrow
  have HAt:=Lib.hid hat
  have HGd:=Lib.hid hgd
  have HOff:=Lib.hid hoff
  have HSq:=Lib.hid hsq
  have HKp:=Lib.hid hkp
  have HOut:=Lib.hid hout
  clear hL hL0 hat hgd hoff hsq hkp hout hrch hrl hn9 hrow htd hcx
  have HMr:=Lib.hid (more_any gq a len cap f k wr HSq.out)
  by_cases hlt:n<mo
  ·have d1:decide ((n:Int)<(mo:Int))=true:=by simp;omega
   by_cases hk:k<len
   ·have d2:decide (k<len)=true:=by simpa using hk
    rw[d2]at HMr
    go_upto_region 5 with(first
     |(go_at_call 58;(refine HMr.out.mono ?_);rintro e w5 ⟨rfl,hb5⟩;have B5:=Lib.hid hb5;clear hb5)
     |fail)
    have HA5:=Lib.hid (At.below HAt.out B5.out)
    have Q5:=Lib.hid (HSq.out.below B5.out)
    have HTl:=Lib.hid (tail_any B g p.bb p.cb p.S m w5 HA5.out.st)
    have HRc:=Lib.hid fun(x:Int)=>Nrc.record_anyC gq a len cap f k x w5 Q5.out
    unfold Nrc.RecordedC at HRc
    obtain⟨sq,hwq⟩: ∃y,IntKind.u64.wrap (m.h.N 9+1)=y:=⟨_,rfl⟩
    clear d1 d2 HMr
    go_upto_region 6 with(first
     |(go_at_call 60;(refine HTl.out.mono ?_);rintro e w6 ⟨rfl,rfl⟩)
     |(go_at_call 59;(refine(HRc.out _).mono ?_);rintro e w7 ⟨L,Ar,nr,cr,k7,r,mo7,x,rfl,hL7,hn7,hP7,hr7,hm7,hx7,hq7,hk7,hnw7,htd7,hcp7⟩;have HCp7:=Lib.hid hcp7;have HTd7:=Lib.hid htd7;have HL7:=Lib.hid hL7;have HPr7:=Lib.hid hP7;have HQ7:=Lib.hid hq7;have HK7:=Lib.hid hk7;have HNw7:=Lib.hid hnw7;clear hL7 hP7 hq7 hk7 hnw7 htd7 hcp7)
     |((with_reducible apply at_store (.tmp 9) (.tmp 31));refine wpList_store_row rfl 64 (.tmp 9) (.tmp 31) rfl w7.heap.size (recL sq (r:Int) (mo7:Int) (mkId x) (.slice Ar nr cr)).toArray rfl rfl 64 zR (heap_alloc_new w7 _) (recInfo _ _ _ _ _) rfl (by simp[Value.oneCell']) ?_)
     |fail)
    have R8:=Lib.hid (show Blk ((w7.alloc (.cells zR 64)).setRow w7.heap.size (recL sq (r:Int) (mo7:Int) (mkId x) (.slice Ar nr cr)).toArray) w7.heap.size (recL sq (r:Int) (mo7:Int) (mkId x) (.slice Ar nr cr)) 64 from setRow_heap _ _ _ _ _ (0,0) (heap_alloc_new w7 _))
    have B8:=Lib.hid (show Below w7.heap.size w7 ((w7.alloc (.cells zR 64)).setRow w7.heap.size (recL sq (r:Int) (mo7:Int) (mkId x) (.slice Ar nr cr)).toArray)from below_setRow ((Below.refl _ _).alloc (Nat.le_refl _) _) (Nat.le_refl _) _)
    generalize (w7.alloc (.cells zR 64)).setRow w7.heap.size (recL sq (r:Int) (mo7:Int) (mkId x) (.slice Ar nr cr)).toArray=w8 at*
    have HWq:=Lib.hid hwq
    clear HTl HRc hwq
    have hz75:wr.heap.size≤w7.heap.size:=Nat.le_trans B5.out.size HK7.out.size
    have hwwr:w.heap.size≤wr.heap.size:=HKp.out.size
    have HA7:=Lib.hid (At.offB HA5.out (kf_of_kb HK7.out) (fun k' h'=>by have h':k'=gq:=h';omega))
    have HA8:=Lib.hid (At.below HA7.out B8.out)
    have HPr8:=Lib.hid (HPr7.out.below B8.out)
    have HQ8:=Lib.hid (HQ7.out.below B8.out)
    have HK8:=Lib.hid (show KeptB w.heap.size gq w w8 from((HKp.out.trans (KeptB.of_below (B5.out.mono hwwr))).trans (HK7.out.mono (Nat.le_trans hwwr B5.out.size))).trans (KeptB.of_below (B8.out.mono (Nat.le_trans hwwr hz75))))
    have HKF8:=Lib.hid (show KeptF (One gq) wr w8 from((KeptF.of_below (F:=One gq) B5.out).trans (kf_of_kb HK7.out) (fun _ _ h=>h)).trans (KeptF.of_below (F:=One gq) B8.out) (fun _ _ h=>h))
    have hs7:w7.heap.size<w8.heap.size:=R8.out.lt
    have HRg:=Lib.hid (rec_range R8.out)
    have c19:w8.cell? ⟨w7.heap.size,19,none⟩=some (.slice Ar nr cr):=R8.out.cell rfl
    have c1:w8.cell? ⟨w7.heap.size,1,none⟩=some (.int .u64 (r:Int)):=R8.out.cell rfl
    have c2:w8.cell? ⟨w7.heap.size,2,none⟩=some (.int .u64 (mo7:Int)):=R8.out.cell rfl
    have HApp:=Lib.hid (append_any (p:=p) (m:=m) Ar L nr cr (r:Int) (mo7:Int) (mkId x) w8 HA8.out HGd.out.img.inv HPr8.out HL7.out (by omega) HGd.out.img.len (by rw[HGd.out.most];decide) (mkId_ok (by omega)) (by omega) (by omega) (HGd.out.img.hg.nb 9 (by omega)))
    unfold Appended at HApp
    have HGd9:=Lib.hid (after_goodN HGd.out hlt HPr8.out.1 (r:Int) (mo7:Int) (mkId x) (by omega) (by omega) (mkId_ok (by omega)))
    have HRc9:=Lib.hid (show(Mk.acode m L (r:Int) (mo7:Int) (mkId x)=0→Nu.Reach (Mk.after m L (r:Int) (mo7:Int) (mkId x)) (rs++ [(L,(r:Int),(mo7:Int),mkId x)])∧(Mk.after m L (r:Int) (mo7:Int) (mkId x)).h.N 9=m.h.N 9+1∧sq=m.h.N 9+1)∧(Mk.acode m L (r:Int) (mo7:Int) (mkId x)≠0→Mk.after m L (r:Int) (mo7:Int) (mkId x)=m)from
     ⟨fun h0=>⟨Nu.Reach.step HRch.out L HPr8.out.1 (r:Int) (mo7:Int) (mkId x) (by omega) (by omega) (mkId_ok (by omega)) h0,(after_n9 h0).1,by
       have h9:=(after_n9 h0).2
       have h9b:=HGd.out.img.hg.nb 9 (by omega)
       have hw:=HWq.out
       rw[IntKind.wrap_u64]at hw
       omega⟩,fun h0=>if_neg h0⟩)
    have HLn:=Lib.hid HL7.out
    have HAr8:=Lib.hid (show ∀b off,Ar=some ⟨b,off,none⟩→0<nr→wr.heap.size≤b∧b<w8.heap.size from fun b off e hn=>by
     have h5:=HNw7.out b off e hn
     have h6:=B5.out.size
     obtain⟨b2,off2,e2,h7,_⟩:=HPr8.out.2 0 (by rw[HL7.out];exact hn)
     rw[e]at e2
     injection e2 with e2
     injection e2 with e2
     subst e2
     exact⟨by omega,h7⟩)
    have HPr8b:=Lib.hid HPr8.out
    generalize Mk.after m L (r:Int) (mo7:Int) (mkId x)=m9 at*
    generalize Mk.acode m L (r:Int) (mo7:Int) (mkId x)=cd at*
    clear HA5 Q5 HQ7 HK7 HA7 HPr7 HL7 HPr8 HKp hx7 B5
    generalize hs7e:w7.heap.size=s7 at*
    clear hs7e B8
    go_upto_region 7 with(first
     |((with_reducible apply at_slot 41);refine wpList_load_mid rfl 62 (.tmp 40) rfl s7 3 rfl (idJ (mkId x)) _ HRg.out Tryz.underlying62 rfl (idJ_info _) ?_)
     |(go_at_call 61;(refine HApp.out.mono ?_);rintro e w9 ⟨rfl,p9,ha9,hp9⟩;have HA9:=Lib.hid ha9;have HP9:=Lib.hid hp9;clear ha9 hp9)
     |fail)
    clear c19 c1 c2 HRg HApp
    have hlt0:=At.lt HAt.out
    have HB9:=Lib.hid (show Below B w8 w9 from HP9.out.base (by have:=(hlt0 g (.inl rfl));omega) (fun k' h'=>(hlt0 k' h').1))
    have HK9:=Lib.hid (show KeptB w.heap.size gq w w9 from HK8.out.trans (KeptB.of_below (HB9.out.mono hBw)))
    have HO9:=Lib.hid (show OwnE 64 20 w9 B A n c xs from Mf.OwnE.keptF HOut.out.own (((HKF8.out.mono (G:=fun k'=>k'=gq∨p.foot g k') (fun i h=> .inl h)).trans HP9.out.kept (fun _ _ h=> .inr h))) (fun k' hk' h=>by
     rcases h with h|h
     ·have:=(OwnE.ltB HOut.out.own k' hk').1;omega
     ·exact HOff.out k' hk' h))
    have HOff9:=Lib.hid (show ∀k',ownB A=some k'→ ¬p9.foot g k' from fun k' hk' h=>by
     rcases HP9.out.foot k' h with h1|h1
     ·exact HOff.out k' hk' h1
     ·have:=(OwnE.ltB HOut.out.own k' hk').2;omega)
    have hsz8:wr.heap.size≤w8.heap.size:=HKF8.out.size
    have HRow9:=Lib.hid (show RowsR w9 gq (p9.foot g) A xs b0 rs from HRow.out.step ((HKF8.out.mono (G:=fun k'=>k'=gq∨p.foot g k') (fun i h=> .inl h)).trans HP9.out.kept (fun _ _ h=> .inr h)) (fun b _ h=>h.elim .inl (fun h=> .inr (.inl h))) (fun b hb hf=>(HP9.out.foot b hf).elim id (fun h=>by omega)) (fun b _ h=>h))
    have HPr9:=Lib.hid (show Prs w9 Ar L from by
     rcases Nat.eq_zero_or_pos nr with h0|h0
     ·rw[List.eq_nil_of_length_eq_zero (show L.length=0 by have:=HLn.out;omega)]
      exact Prs.nil _ _
     ·exact HPr8b.out.keptB HP9.out.kept.size fun b off e hb=>HP9.out.kept.block b hb fun hf=>by
       have h1:=(hlt0 b hf).2
       have h2:=(HAr8.out b off e h0).1
       omega)
    have HAr9:=Lib.hid (show ∀b off,Ar=some ⟨b,off,none⟩→0<nr→b<w9.heap.size∧b≠gq∧ ¬p9.foot g b∧ownB A≠some b from fun b off e hn=>by
     obtain⟨h1,h2⟩:=HAr8.out b off e hn
     have h3:=HP9.out.kept.size
     refine⟨by omega,by omega,fun hf=>?_,fun ha=>?_⟩
     ·rcases HP9.out.foot b hf with h4|h4
      ·have:=(hlt0 b h4).2;omega
      ·omega
     ·have:=(OwnE.ltB HOut.out.own b ha).2;omega)
    by_cases hz:cd=0
    ·have d3:(cd !=0)=false:=by simp[hz]
     have d3e:(cd==0)=true:=by simp[hz]
     have HR9:=Lib.hid (show Blk w9 s7 (recL sq (r:Int) (mo7:Int) (mkId x) (.slice Ar nr cr)) 64 from(HP9.out.kept.block s7 hs7 (fun hf=>by have:=(hlt0 s7 hf).2;omega)).trans R8.out)
     have HRw9:=Lib.hid (show Rws (w9.alloc (.cells (recL sq (r:Int) (mo7:Int) (mkId x) (.slice Ar nr cr)).toArray 64)) B A n c xs from⟨OwnE.alloc HO9.out _,HOut.out.nil,HOut.out.u8⟩)
     have HA9a:=Lib.hid (At.below HA9.out ((Below.refl w9.heap.size w9).alloc (Nat.le_refl _) (.cells (recL sq (r:Int) (mo7:Int) (mkId x) (.slice Ar nr cr)).toArray 64)))
     have hnl:xs.length=n*20:=OwnE.len HOut.out.own
     have HOn:=Lib.hid (recL_one sq (r:Int) (mo7:Int) (mkId x) Ar nr cr)
     go_wp2_with(first
      |((with_reducible apply at_slot 48);refine wpList_load_row rfl 64 (.tmp 9) rfl s7 rfl 64 (recL sq (r:Int) (mo7:Int) (mkId x) (.slice Ar nr cr)).toArray (0,0) _ HR9.out Tryz.underlying64 rfl (recInfo _ _ _ _ _) ?_)
      |(at_builtin;refine wpList_append_new recElt rfl (.tmp 47) (.tmp 49) rfl B A n c xs rfl HRw9.out.own ⟨w9.heap.size,0,none⟩ 1 1 (recL sq (r:Int) (mo7:Int) (mkId x) (.slice Ar nr cr)) rfl rfl (Blk.news (Blk.new w9 _ _)) HOn.out (by omega) (by omega) (by unfold maxLen;omega) ?_;intro A' c' w10 ho10 hg10 hat10;have HO10:=Lib.hid ho10;have HG10:=Lib.hid hg10;have HT10:=Lib.hid hat10;clear ho10 hg10 hat10)
      |fail)
     have HA10:=Lib.hid (At.rows HA9a.out HRw9.out HOff9.out HO10.out HG10.out HT10.out)
     have HB10:=Lib.hid (show Below B w9 w10 from((Below.refl B w9).alloc (by have:=(At.lt HA9.out g (.inl rfl));omega) (.cells (recL sq (r:Int) (mo7:Int) (mkId x) (.slice Ar nr cr)).toArray 64)).trans (below_grown HG10.out (by have:=(At.lt HA9a.out g (.inl rfl));omega) (fun k' hk'=>(OwnE.ltB HOut.out.own k' hk').1)))
     have HRow10:=Lib.hid (show RowsR w10 gq (p9.foot g) A' (xs++recL sq (r:Int) (mo7:Int) (mkId x) (.slice Ar nr cr)) b0 (rs++ [(L,(r:Int),(mo7:Int),mkId x)])from
      (HRow9.out.snoc (L,(r:Int),(mo7:Int),mkId x) (cr:=cr) (by have h1:=(HRc9.out.1 hz).2.2;have h2:=HN9.out;have h3:=HRl.out;omega) HLn.out hn7 HPr9.out HAr9.out).step (((KeptF.refl (fun k=>ownB A=some k) w9).alloc _).grown HG10.out (fun k h _=>h.symm▸rfl)) (fun b _ h=> .inr (.inr h)) (fun b _ h=>h) (fun b hb h=>by
        rcases HT10.out with h1|⟨h1,_⟩
        ·rw[←h1];exact h
        ·rw[h1]at h
         injection h with h
         simp only[World.alloc,Array.size_push]at h
         omega))
     go_roundw
     case rel=>
      refine⟨A',n+1,c',rfl,by omega,Lib.hid ⟨⟨p9,m9,rs++ [(L,(r:Int),(mo7:Int),mkId x)],_,b0,HA10.out,HGd9.out.1 hz,fun k' hk' hf=>?_,⟨HO10.out,fun h=>by omega,fun _=>?_⟩,(HRc9.out.1 hz).1,by rw[List.length_append,HRl.out];rfl,by have h1:=(HRc9.out.1 hz).2.1;have h2:=HN9.out;omega,HRow10.out,Nus.told_snoc HTd.out HTd7.out,capx_snoc HCx.out (OwnE.len HOut.out.own) HCp7.out⟩,⟨k7,seq_low HQ8.out (HB9.out.trans HB10.out) (by omega) (fun h0 b off e=>Nat.lt_of_lt_of_le (HW0.out h0 b off e) hBw)⟩,HK9.out.trans (KeptB.of_below (HB10.out.mono hBw))⟩⟩
      ·rcases HT10.out with h1|⟨h1,_⟩
       ·exact HOff9.out k' (h1▸hk') hf
       ·rw[h1]at hk'
        have h3:=(At.lt HA9a.out k' hf).2
        rw[←Option.some.inj hk']at h3
        exact Nat.lt_irrefl _ h3
      ·rcases Nat.eq_zero_or_pos n with h0|h0
       ·rw[List.eq_nil_of_length_eq_zero (show xs.length=0 by omega)]
        exact⟨_,rfl⟩
       ·obtain⟨v,hv⟩:=HOut.out.u8 h0
        refine⟨v,?_⟩
        rw[List.getElem?_append_left (by omega)]
        exact hv
     case measure=>simp[slen];omega
    ·have d3:(cd !=0)=true:=by simpa using hz
     go_wp2
     go_ret2
     exact⟨g,A,n,c,B,p9,m9,rs,xs,b0,rfl,hBw,HA9.out,HGd9.out.2 hz,HK9.out,⟨HO9.out,HOut.out.nil,HOut.out.u8⟩,by rw[HRc9.out.2 hz];exact HRch.out,HRl.out,by rw[HRc9.out.2 hz];exact HN9.out,HRow9.out,HTd.out,HCx.out⟩
   ·have d2:decide (k<len)=false:=by simpa using hk
    rw[d2]at HMr
    go_wp2_with(first
     |(go_at_call 58;(refine HMr.out.mono ?_);rintro e w5 ⟨rfl,hb5⟩;have B5:=Lib.hid hb5;clear hb5)
     |fail)
    go_ret2
    exact⟨g,A,n,c,B,p,m,rs,xs,b0,rfl,hBw,At.below HAt.out B5.out,HGd.out,HKp.out.trans (KeptB.of_below (B5.out.mono HKp.out.size)),⟨HOut.out.own.kept B5.out (Nat.le_refl _),HOut.out.nil,HOut.out.u8⟩,HRch.out,HRl.out,HN9.out,HRow.out.step (KeptF.of_below (F:=fun _=>False) B5.out) (fun _ _ h=>h.elim) (fun _ _ h=>h) (fun _ _ h=>h),HTd.out,HCx.out⟩
  ·have d1:decide ((n:Int)<(mo:Int))=false:=by simp;omega
   go_wp2_with fail
   go_ret2
   exact⟨g,A,n,c,B,p,m,rs,xs,b0,rfl,hBw,HAt.out,HGd.out,HKp.out,HOut.out,HRch.out,HRl.out,HN9.out,HRow.out,HTd.out,HCx.out⟩
end Nuc
namespace Vg
attribute [local irreducible] wpList Code.wp
end Vg
end Go.Proofs.YtjecmgkmcfkcjaaGreat
