/-
  Texts beneath the proof.
-/
import Derived.Test.YtiddkgcafpaekaaGreatJq18
set_option linter.unusedVariables false
set_option linter.unusedSimpArgs false
set_option maxRecDepth 100000
set_option maxHeartbeats 4000000
open Go.ChangeShapes Go.WideShapes Go.ChangeAt Go.RowKit
namespace Go.Proofs.YtiddkgcafpaekaaGreat
namespace Nee
open Bytes8 Blk8 Own8 OwnE Ob Oc Oj Ga Ma Kf Mb Mc Md Me Mf Mg Fa Fb Fc Sg Dc Na Nb Nc Nd
theorem idxK_at {l:List (Kn×Value)}{ks:List Kn}(e:l.map Prod.fst=ks){s:List Int}{k:Nat}(hk:k<l.length)(h:l[k].1.text=s)(h0: ∀j (hj:j<l.length),j<k→l[j].1.text≠s):idxK ks s=some k:=by
 subst e
 unfold idxK
 rw[List.findIdx?_eq_some_iff_getElem]
 exact⟨by simpa using hk,by simp[h],fun j hj=>by simpa using h0 j (by omega) hj⟩
theorem idxK_none {l:List (Kn×Value)}{ks:List Kn}(e:l.map Prod.fst=ks){s:List Int}(h0: ∀j (hj:j<l.length),l[j].1.text≠s):idxK ks s=none:=by
 subst e
 unfold idxK
 rw[List.findIdx?_eq_none_iff]
 intro x hx
 obtain⟨q,hq,rfl⟩:=List.mem_map.1 hx
 obtain⟨j,hj,rfl⟩:=List.mem_iff_getElem.1 hq
 simpa using h0 j hj
theorem pay_len (n v:List Int):(pay n v).length=n.length+1+v.length:=by unfold pay;simp;omega
attribute [local irreducible] Mk.cells wpList Code.wp
variable {B g : Nat} {p : Pl} {m : Mk}
theorem data_any (nm v:List Int)(w:World)(h:At w B g p m)(I:Inv m)(hn:AllB nm)(hv:AllB v)(hf:nm.length≤64∧v.length≤256)(hb:m.b.length≤80000):
 Calls Tryz.prog 98 #[.pointer (some ⟨g,0,none⟩),pv nm v] w fun e w'=>e= .returned (.int .i64 ((Mk.dataOf m nm (pay nm v)).1:Nat))∧StpD B g p (Mk.dataOf m nm (pay nm v)).2 w w':=by
 have HPay:=yH fun w=>rpayload_any nm v (by omega) w
 have hsl:=pay_len nm v
 have hs:=pay_all hn hv
 generalize pay nm v=s at*
 obtain⟨hf1,hf2⟩:=hf
 have hsl400:s.length≤400:=by omega
 clear hsl
 have HA0:=yH h
 have HI:=yH I
 have hds:=I.ds
 have hbL:=I.len
 clear h I
 obtain⟨A0,hA0⟩: ∃x,T nm=x:=⟨_,rfl⟩
 have HNm:=yH hA0
 dsimp only[pv,box]at*
 rw[hA0]at HPay⊢
 clear hA0
 generalize T v=V at*
 have b1:Below w.heap.size w ((w.alloc (.cells #[.string A0,.string V] 77)).alloc (.cells #[.string A0,.string V] 77)):=((Below.refl _ _).alloc (yR _) _).alloc (by simp) _
 have R1:=yH (show Blk ((w.alloc (.cells #[.string A0,.string V] 77)).alloc (.cells #[.string A0,.string V] 77)) w.heap.size [.string A0,.string V] 77 from(Blk.new w _ _).alloc _)
 have HA:=yH (At.below HA0.out b1)
 have HB1w:=yH b1
 clear b1
 go_enter Tryz.func98,Tryz.ntmps98
 go_upto_region 2 with(first|(go_at_call 32;(with_reducible refine(HPay.out _).mono ?_);rintro e w1 ⟨rfl,rfl⟩)|fail)
 generalize (w.alloc (.cells #[.string A0,.string V] 77)).alloc (.cells #[.string A0,.string V] 77)=w1 at*
 have c4:=At.cd HA.out
 have HL:=yH (ownK_len HA.out.dr)
 have HTx:=yH fun(q:Kn×Value) (hq:q∈p.dl)=>(HI.out.dat q.1 (by rw[←HA.out.dm];exact List.mem_map.2 ⟨q,hq,rfl⟩)).2.1
 obtain⟨nd,hnd⟩: ∃n,p.nd=n:=⟨_,rfl⟩
 have HN:=yH hnd
 rw[hnd]at c4 HL
 clear hnd
 have hnd8:nd≤80000:=by
  have h1:=HI.out.dn
  rw[←HA.out.dm,List.length_map,HL.out]at h1
  omega
 go_wp2
 go_loopw [6] (fun i wr=> ∃k:Nat,k≤nd∧i= .int .i64 (k:Int)∧Hid (∀j (hj:j<p.dl.length),j<k→p.dl[j].1.text≠s)∧wr=w1) (fun i _=>nd-(intOf i).toNat)
 case atStart=>exact⟨0,Nat.zero_le _,rfl,yH fun _ _ h=>absurd h (Nat.not_lt_zero _),rfl⟩
 case round=>
  obtain⟨k,hkk,rfl,hno,rfl⟩:=hrel
  by_cases hlt:k<nd
  ·have hki:k<p.dl.length:=by rw[HL.out];exact hlt
   obtain⟨b,hDb,hbl,d0,d1,d2,d3,d4⟩:=ownK_at HA.out.dr k hki
   rw[hDb]at c4
   clear d1 d2 d3 d4 hDb
   have HAl:=yH (HTx.out _ (List.getElem_mem hki))
   have HLo:=yH fun h:p.dl[k].1.text=s=>idxK_at HA.out.dm hki h hno.out
   have HNx:=yH fun(h:p.dl[k].1.text≠s) j (hj:j<p.dl.length) (hjk:j<k+1)=>show p.dl[j].1.text≠s from by
    rcases Nat.lt_or_ge j k with h1|h1
    ·exact hno.out j hj h1
    ·have:j=k:=by omega
     subst this
     exact h
   generalize p.dl[k]=q at*
   by_cases he:q.1.text=s
   ·have e1:((T q.1.text).toList==(T s).toList)=true:=by rw[T_beq HAl.out hs];simp[he]
    have HQ:=yH (HLo.out he)
    have HP:=yH (Path.of_below (g:=g) (p:=p) HB1w.out)
    clear he HNx HLo HAl HPay
    generalize T q.1.text=Q at*
    generalize T s=R at*
    go_wp2
    go_ret
    unfold Mk.dataOf
    rw[HQ.out]
    exact⟨rfl,p,HA.out,HP.out,fun x hx=> .inl hx,rfl⟩
   ·have e1:((T q.1.text).toList==(T s).toList)=false:=by rw[T_beq HAl.out hs];simp[he]
    have HQ:=yH (HNx.out he)
    clear he HNx HLo HAl HPay
    generalize T q.1.text=Q at*
    generalize T s=R at*
    go_wp2
    go_roundw
    case rel=>exact⟨k+1,by omega,by go_num,HQ,trivial⟩
    case measure=>simp[intOf];omega
  ·obtain rfl:k=nd:=by omega
   have HLo:=yH (idxK_none HA.out.dm fun j hj=>hno.out j hj (by rw[←HL.out];exact hj))
   clear hno HPay
   obtain⟨ns,hns⟩: ∃ns,s.length=ns:=⟨_,rfl⟩
   have HS:=yH hns
   have hns4:ns≤400:=by omega
   clear hns
   have HO:=yH fun(W:World) (c:Nat) (h:Bytes W (some ⟨wr.heap.size,0,none⟩) s)=>rof_any m.C.keyed m.C.F _ s ns c W HI.out.F h HS.out (by omega)
   go_upto_region 7 with fail
   have HB:=yH HA.out.st.st
   have pk:=HB.out.cell (Mk.get_keyed _ _)
   have pF:=Mk.file_range HB.out
   obtain⟨cv,mk,hmk⟩:=text_conv s hs
   have hcv:=fun w=>(hmk w).1
   simp only[HS.out]at hcv
   have HB1:=yH ((hmk wr.drew).2.1 wr.heap.size rfl)
   have HG1:=yH (((Below.refl wr.heap.size wr).drew).trans (hmk wr.drew).2.2.below)
   have HW1:=yH (HB.out.below HG1.out HB.out.lt)
   have qk:=HW1.out.cell (Mk.get_keyed _ _)
   have qF:=Mk.file_range HW1.out
   have HCV:=yH hmk
   clear hmk
   have idU:=Tryz.underlying37
   have idI:(Tryz.prog.info? 37).map (·.size)=some (fileV m.C).length:=by kernel_rfl
   refine wp_region_noPanic ?_
   refine wp_region_held_drew (S:=fun w':World=>w'.cell? ⟨g,51,none⟩=some (.bool m.C.keyed)∧w'.rangeAt g 0 (fileV m.C)) (by kernel_rfl) (by exact⟨pk,pF⟩) (fun hHeld=>?_)
   refine tk (i:=0) (oi:=⟨some 36,_,_,_,_,_⟩) (v:=?_) rfl (Or.inl ⟨by rfl,?_⟩) ?_
   rotate_left
   ·intro W hSw;go_simp;try (with_reducible rfl)
   try simp only[Act.put,sA,sZ,sS]
   refine tk (i:=1) (oi:=⟨some 37,_,_,_,_,_⟩) (v:=?_) rfl (Or.inl ⟨by rfl,?_⟩) ?_
   rotate_left
   ·intro W hSw;go_simp;try (with_reducible rfl)
   try simp only[Act.put,sA,sZ,sS]
   refine tk (i:=2) (oi:=⟨some 38,_,_,_,_,_⟩) (v:=?_) rfl (Or.inl ⟨by rfl,?_⟩) ?_
   rotate_left
   ·intro W hSw;go_simp;try (with_reducible rfl)
   try simp only[Act.put,sA,sZ,sS]
   refine tk (i:=3) (oi:=⟨some 39,_,_,_,_,_⟩) (v:=?_) rfl (Or.inl ⟨by rfl,?_⟩) ?_
   rotate_left
   ·intro W hSw;go_simp;try (with_reducible rfl)
   try simp only[Act.put,sA,sZ,sS]
   refine tk (i:=4) (oi:=⟨some 40,_,_,_,_,_⟩) (v:=?_) rfl (Or.inl ⟨by rfl,?_⟩) ?_
   rotate_left
   ·intro W hSw;have hSx:=hSw.1;go_simp;try (with_reducible rfl)
   try simp only[Act.put,sA,sZ,sS]
   refine tk (i:=5) (oi:=⟨some 41,_,_,_,_,_⟩) (v:=?_) rfl (Or.inl ⟨by rfl,?_⟩) ?_
   rotate_left
   ·intro W hSw;go_simp;try (with_reducible rfl)
   try simp only[Act.put,sA,sZ,sS]
   refine tk (i:=6) (oi:=⟨some 42,_,_,_,_,_⟩) (v:=?_) rfl (Or.inl ⟨by rfl,?_⟩) ?_
   rotate_left
   ·intro W hSw;go_simp;try (with_reducible rfl)
   try simp only[Act.put,sA,sZ,sS]
   refine tk (i:=7) (oi:=⟨some 43,_,_,_,_,_⟩) (v:=?_) rfl (Or.inl ⟨by rfl,?_⟩) ?_
   rotate_left
   ·intro W hSw;go_simp;try (with_reducible rfl)
   try simp only[Act.put,sA,sZ,sS]
   refine tk (i:=8) (oi:=⟨some 44,_,_,_,_,_⟩) (v:=?_) rfl (Or.inl ⟨by rfl,?_⟩) ?_
   rotate_left
   ·intro W hSw;go_simp;try (with_reducible rfl)
   try simp only[Act.put,sA,sZ,sS]
   refine tk (i:=9) (oi:=⟨some 45,_,_,_,_,_⟩) rfl (yieldsIf_load_mid (by rfl) _ _ rfl _ _ rfl _ _ (fun _ h=>h.2) idU rfl idI) ?_
   try simp only[Act.put,sA,sZ,sS]
   refine tk (i:=10) (oi:=⟨some 46,_,_,_,_,_⟩) (v:=?_) rfl (Or.inl ⟨by rfl,?_⟩) ?_
   rotate_left
   ·intro W hSw;go_simp;try (with_reducible rfl)
   try simp only[Act.put,sA,sZ,sS]
   refine wpAnyH_ready (rs:=[11]) (by kernel_rfl) (by simp) ?_
   refine AllReadyH.cons (o:=⟨some 47,_,_,_,_,_⟩) rfl (fun K hK=>?_) AllReadyH.nil
   go_simp
   skip
   try go_wp2_with fail
   refine hK.out _ _ (by exact⟨qk,qF⟩) (fun hHeld=>?_)
   clear hK K
   try simp only[Act.put,sA,sZ,sS]
   refine wpAnyH_ready (rs:=[12]) (by kernel_rfl) (by simp) ?_
   refine AllReadyH.cons (o:=⟨some 48,_,_,_,_,_⟩) rfl (fun K hK=>?_) AllReadyH.nil
   go_simp
   (refine(HO.out _ _ HB1.out).mono ?_);rintro e w2 ⟨rfl,hb2⟩;have HG2:=yH (HG1.out.trans (hb2.mono HG1.out.size));have HW2:=yH (HB.out.below HG2.out HB.out.lt);have rk:=HW2.out.cell (Mk.get_keyed _ _);have rF:=Mk.file_range HW2.out;clear hb2
   try go_wp2_with fail
   refine hK.out _ _ (by exact⟨rk,rF⟩) (fun hHeld=>?_)
   clear hK K
   try simp only[Act.put,sA,sZ,sS]
   refine tk (i:=13) (oi:=⟨some 7,_,_,_,_,_⟩) (v:=?_) rfl (Or.inl ⟨by rfl,?_⟩) ?_
   rotate_left
   ·intro W hSw;go_simp;try (with_reducible rfl)
   try simp only[Act.put,sA,sZ,sS]
   refine wpAnyH_done (by kernel_rfl) ?_ _
   refine NoPanic.normal ?_
   have HA2:=yH (At.below HA.out HG2.out)
   have HP2:=yH ((Path.refl g p wr).below HG2.out)
   clear pk pF qk qF rk rF
   clear HO
   have hh0:=ofS_bd m.C.keyed (idL m.C.F) s
   generalize hhh:ofS m.C.keyed (idL m.C.F) s=hh at*
   have HH:=yH hhh
   clear hhh
   have HB3:=yH ((HCV.out w2).2.1 w2.heap.size rfl)
   have HG3:=yH (HCV.out w2).2.2.below
   have HPD:=yH fun(W:World) (A:Option Addr) (c:Nat) (h:Bytes W A s)=>rputData_any hh 0 0 0 0 0 A s ns c W h HS.out (by omega) (six_I hh0 (by decide) (by decide) (by decide) (by decide) (by decide))
   obtain⟨hf0,hf1'⟩:=hds
   have hfz: ¬(m.C.ds:Int)=0:=by omega
   have hpd:padN (48+ns)≤8:=by unfold padN;omega
   have hbig:m.b.length+(16+(48+ns)+padN (48+ns))≤90000:=by omega
   obtain⟨sl,hsl1,hsl2⟩: ∃sl:Nat,hh%(m.C.ds:Int)=(sl:Int)∧sl<m.C.ds:=⟨(hh%(m.C.ds:Int)).toNat,by have:=Int.emod_nonneg hh hfz;omega,by have:=Int.emod_nonneg hh hfz;have:=Int.emod_lt_of_pos hh (show(0:Int)<(m.C.ds:Int)by omega);omega⟩
   go_upto_region 10 with(first
    |(go_at_call 147;(with_reducible refine(HPD.out _ _ _ HB3.out).mono ?_);rintro e w4 ⟨A4,c4',rfl,ho4,hb4⟩;have HO4:=yH ho4;have HG4:=yH (HG3.out.trans (hb4.mono HG3.out.size));have HA4:=yH (At.below HA2.out HG4.out);have HP4:=yH (HP2.out.below HG4.out);clear ho4 hb4)
    |(go_at_call 100;(refine(objectS_any A4 _ c4' _ w4 HA4.out HO4.out.bytes HO4.out.2.1 (by omega) (by omega) (by have:=HI.out.n7;omega)).mono ?_);rintro e w5 ⟨rfl,b5,cb5,ha5,hp5⟩;have HA5:=yH ha5;have HP5:=yH (HP4.out.trans hp5);have f5:w5.cell? ⟨g,48,none⟩=some (.int .i64 (m.C.ds:Int)):=HA5.out.st.st.cell (Mk.get_ds _ _);clear ha5 hp5)
    |fail)
   have HSL:=yH hsl1
   clear hsl1
   obtain⟨ys,hys⟩: ∃x,x=objB 1 (nums [hh,0,0,0,0,0]++s):=⟨_,rfl⟩
   rw[←hys]at HA5
   have hyl:(m.object ys).b.length=m.b.length+(16+(48+ns)+padN (48+ns)):=by show(m.b++ys).length=_;rw[List.length_append,hys,HO4.out.2.1]
   have hlo:(m.object ys).b.length≤90000:=by rw[hyl];exact hbig
   have HA5d:=yH (At.drew HA5.out)
   have t144:w5.drew.cell? ⟨g,144,none⟩=some (.slice p.D k p.cd):=HN.out▸At.cd (p:={p with bb:=b5,cb:=cb5}) HA5d.out
   have n2:(m.object ys).h.N 2=((288:Nat):Int):=HI.out.n2
   have t121:w5.drew.cell? ⟨g,121,none⟩=some (.int .u64 ((288:Nat):Int)):=(At.cN HA5d.out 2 121 (by decide) rfl).trans (congrArg (fun x=>some (Value.int .u64 x)) n2)
   have HDm:=yH HA.out.dm
   have hdl:m.datas.length=k:=by rw[←HDm.out,List.length_map,HL.out]
   have HH5:=yH (hang_any g b5 cb5 (m.object ys).b.length 288 m.b.length sl k p.cd _ _ _ p.D m.datas B w5.drew HA5d.out.st.st (Mk.get_b _ _) HA5d.out.st.own HA5d.out.st.ne (by omega) (HDm.out▸ownK_kns HA5d.out.dr) hdl (by have:=HI.out.dn;omega) (by omega) (by rw[hyl];omega) (fun q hq=>by have:=(HI.out.dat q hq).1;rw[hyl];omega))
   obtain⟨iS,hiS⟩: ∃x,x=inSlot m.datas sl:=⟨_,rfl⟩
   have hile:iS≤k:=by rw[hiS,←hdl];exact Me.inSlot_le _ _
   rw[←hiS]at HH5
   have HIS:=yH hiS
   clear hiS
   obtain⟨n19,hn19⟩: ∃n:Nat,m.h.N 19=(n:Int):=⟨(m.h.N 19).toNat,by have:=HI.out.n19;omega⟩
   have HN19:=yH hn19
   have hmx:=max_if n19 iS
   go_region_held3 (fun W=>W.cell? ⟨g,144,none⟩=some (.slice p.D k p.cd)∧W.cell? ⟨g,121,none⟩=some (.int .u64 ((288:Nat):Int))) (first|(with_reducible exact⟨t144,t121⟩)|(with_reducible exact⟨v144,v121⟩)|go_keep) (first
    |(go_at_call 148;(refine HH5.out.mono ?_);rintro e w6 ⟨rfl,ho6,hp6⟩;have HA6:=yH (At.put8 HA5d.out ho6.2.1 ho6 hp6);have HP6:=yH (HP5.out.drew.trans (Path.put8 (p:={p with bb:=b5,cb:=cb5}) hp6));have v144:w6.cell? ⟨g,144,none⟩=some (.slice p.D k p.cd):=HN.out▸At.cd (p:={p with bb:=b5,cb:=cb5}) HA6.out;have v121:w6.cell? ⟨g,121,none⟩=some (.int .u64 ((288:Nat):Int)):=(At.cN HA6.out 2 121 (by decide) rfl).trans (congrArg (fun x=>some (Value.int .u64 x)) n2);clear ho6 hp6)
    |fail)
   have z138:w6.cell? ⟨g,138,none⟩=some (.int .u64 (n19:Int)):=(At.cN HA6.out 19 138 (by decide) rfl).trans (congrArg (fun x=>some (Value.int .u64 x)) hn19)
   have f138:=At.fz HA6.out 138
   clear t144 t121 v144 v121
   go_upto_region 11 with fail
   go_region
   have HA7:=yH (At.drew (At.setN HA6.out 19 138 (by decide) rfl ((max n19 iS:Nat):Int)))
   have HP7:=yH ((HP6.out.set 138 (.int .u64 ((max n19 iS:Nat):Int))).drew)
   generalize (w6.setCell ⟨g,138,none⟩ (.int .u64 ((max n19 iS:Nat):Int))).drew=w7 at*
   clear z138 f138
   go_upto_region 12 with fail
   have z134:w7.cell? ⟨g,134,none⟩=some (.int .u64 (m.h.N 15)):=At.cN HA7.out 15 134 (by decide) rfl
   have f134:=At.fz HA7.out 134
   have hwr:IntKind.u64.wrap (m.h.N 15+1)=m.h.N 15+1:=by have:=HI.out.n15;rw[IntKind.wrap_u64];omega
   go_region
   have HA8:=yH (At.drew (At.setN HA7.out 15 134 (by decide) rfl (m.h.N 15+1)))
   have HP8:=yH ((HP7.out.set 134 (.int .u64 (m.h.N 15+1))).drew)
   generalize (w7.setCell ⟨g,134,none⟩ (.int .u64 (m.h.N 15+1))).drew=w8 at*
   clear z134 f134
   have x144:w8.cell? ⟨g,144,none⟩=some (.slice p.D k p.cd):=HN.out▸At.cd (p:={p with bb:=b5,cb:=cb5}) HA8.out
   go_upto_region 14 with(first
    |(at_builtin;(refine wpList_append_elt_at knElt rfl (.tmp 107) (.tmp 112) rfl B p.D k p.cd (kf p.dl) rfl (HN.out▸OwnE.alloc HA8.out.dr _) ⟨w8.heap.size,0,none⟩ 1 1 (knC ⟨s,m.b.length,sl,0,[]⟩ (.slice none 0 0)) rfl rfl (Blk.news (Blk.new w8 _ 197)) (by simp[knC,Value.oneCell']) (by omega) (by omega) (by unfold maxLen;omega) ?_);intro D9 c9 w9 ho9 hgr9 hat9;have HX9:=yH (At.pushD HA8.out w9 _ ⟨s,m.b.length,sl,0,[]⟩ (.slice none 0 0) D9 c9 (congrArg (· +1) HN.out.symm) ho9 hgr9 hat9 (Arr.nil _ _));have x9:w9.cell? ⟨g,144,none⟩=some (.slice p.D k p.cd):=HN.out▸(pushed_st (p:={p with bb:=b5,cb:=cb5}) HA8.out hgr9).cell (Mk.get_d _ _);have z9:w9.frozen? ⟨g,144,none⟩=false:=(pushed_st HA8.out hgr9).frozen 144;clear ho9 hgr9)
    |fail)
   obtain⟨ha9,hp9⟩:=HX9.out
   have HP9:=yH (HP8.out.trans hp9)
   have e1:ys=Mk.dobj m s:=by rw[hys,←HH.out];rfl
   have e2:sl=Mk.dslot m s:=by
    have:=HSL.out
    rw[←HH.out]at this
    unfold Mk.dslot Mk.sum Cf.file
    rw[this]
    exact(Int.toNat_natCast sl).symm
   have HA9:=yH (At.same (m':=Mk.put1 m s) ha9 rfl (by
    show setN (setN (m.object ys).h 19 _) 15 _=setN (setN (m.object (Mk.dobj m s)).h 19 _) 15 _
    rw[e1,←e2,←HIS.out,HN19.out]
    congr 2
    omega) rfl (by
    show hung (m.b++ys) m.datas 288 m.b.length sl=hung (m.b++Mk.dobj m s) m.datas 288 m.b.length (Mk.dslot m s)
    rw[e1,e2]) (by
    show m.datas++_=m.datas++_
    rw[e2]) rfl rfl)
   clear ha9 hp9 HX9 x144 x9 z9 e1 e2 hcv HCV HPD HH5
   generalize w9.setCell ⟨g,144,none⟩ (.slice D9 (k+1) c9)=w10 at*
   have I1:=inv_put1 HI.out s hs hsl400
   have l1:=put1_len HI.out s
   obtain⟨d1,d2,d3⟩:=dobj_len m s
   have r0:w10.cell? ⟨w.heap.size,0,none⟩=some (.string A0):=(show Blk w10 w.heap.size _ _ from(HP9.out.kept.block w.heap.size R1.out.lt (fun hf=>absurd (At.lt HA0.out _ hf).2 (Nat.lt_irrefl _))).trans R1.out).cell (i:=0) rfl
   obtain⟨f1,f2,f3,f4,f5,f6,f7,f8,f9⟩:=inv_fieldOf I1 nm hn hf1
   have HF:=fieldS_any nm w10 HA9.out I1 hn hf1 (by omega)
   have HG:Mk.dataNew m nm s=Mk.put2 (Mk.fieldOf (Mk.put1 m s) nm).2 m.b.length (Mk.fieldOf (Mk.put1 m s) nm).1:=rfl
   rw[HNm.out]at HF
   generalize (Mk.fieldOf (Mk.put1 m s) nm).1=k1 at*
   generalize (Mk.fieldOf (Mk.put1 m s) nm).2=m11 at*
   have HFf:=yH HF
   have HGg:=yH HG
   have HD5:=yH (show m11.datas.length=k+1 by rw[f5];show(m.datas++_).length=_;rw[List.length_append,hdl];rfl)
   clear HF HG f5 f6 f7 f8 f9
   go_upto_region 15 with(first
    |(go_at_call 149;(refine HFf.out.mono ?_);rintro e w11 ⟨rfl,p11,ha11,hp11,hdl11,hM11⟩;have HA11:=yH ha11;have HP11:=yH (HP9.out.trans hp11);have HDL11:=yH hdl11;have HMM11:=yH hM11;clear ha11 hp11 hdl11 hM11)
    |fail)
   have y143:=At.cb HA11.out
   go_upto_region 18 with(first
    |(go_at_call 150;(refine(rget8 (some ⟨p11.bb,0,none⟩) m11.b m11.b.length p11.cb (k1+32) _ w11 (by omega) rfl (by omega) HA11.out.st.own.bytes (by omega)).mono ?_);rintro e w12 ⟨rfl,rfl⟩)
    |(go_at_call 104;(refine(putS_any (m.b.length+32) _ (by omega) _ _ HA11.out (by omega) (by omega)).mono ?_);rintro e w12 ⟨rfl,ha12,hp12⟩;have HA12:=yH ha12;have HP12:=yH (HP11.out.trans hp12);have hl12:(put8 m11.b (m.b.length+32) (u8 m11.b (k1+32))).length=m11.b.length:=put8_len _ _ _ (by omega);clear ha12 hp12)
    |(go_at_call 104;(refine(putS_any (k1+32) _ (by omega) _ _ HA12.out (by rw[hl12];omega) (by rw[hl12];omega)).mono ?_);rintro e w13 ⟨rfl,ha13,hp13⟩;have HA13:=yH ha13;have HP13:=yH (HP12.out.trans hp13);clear ha13 hp13)
    |fail)
   have hnd11:p11.nd=k+1:=by
    rw[←ownK_len HA13.out.dr,←HD5.out,←show p11.dl.map Prod.fst=m11.datas from HA13.out.dm,List.length_map]
   have y144:w13.cell? ⟨g,144,none⟩=some (.slice p11.D (k+1) p11.cd):=hnd11▸At.cd HA13.out
   have HE:=yH (show Mk.dataOf m nm s=(k,Mk.dataNew m nm s)by unfold Mk.dataOf;rw[HLo.out,hdl])
   clear y143
   go_wp2
   go_ret
   rw[HE.out,HGg.out]
   refine⟨rfl,p11,HA13.out,(Path.of_below HB1w.out).trans HP13.out,fun x hx=>?_,HMM11.out⟩
   rw[HDL11.out]at hx
   rcases List.mem_append.1 hx with hx|hx
   ·exact .inl hx
   ·rw[List.mem_singleton.1 hx]
    exact .inr ⟨rfl,rfl⟩
end Nee
namespace Nf
open Bytes8 Blk8 Own8 OwnA OwnE Rows2 Ob Od Ga Gn Ma Kf Mb Mc Md Mf Mg Fb Dc Yc Yd Yk Na Nb Nc Nd
theorem run_append_row {E S:TypeId}{size bytes:Nat}{z:Value}(he:Elt E S size bytes z)(w:World)(ty:TypeId)(base:Nat)(A:Option Addr)(n c:Nat)(xs:List Value)(ho:OwnE E size w base A n c xs)(A2:Option Addr)(m c2:Nat)(news:List Value)(hl:news.length=m*size)
 (hnews: ∀j u,news[j]? =some u→ ∃ad,A2=some ad∧w.cell? (ad.add j)=some u)(h1: ∀u∈news,u.oneCell'=true)(h63:n+m≤4611686018427387904)(hbytes:(n+m)*bytes≤140737488355328)(hml:n+m≤maxLen):
 ∃A' c' w',(Builtin.append_ #[S,S] ty #[.slice A n c,.slice A2 m c2]).run Tryz.prog w= .ok (.slice A' (n+m) c') w'∧OwnE E size w' base A' (n+m) c' (xs++news)∧w.grownBy w' (ownB A)∧(ownB A'=ownB A∨ownB A'=some w.heap.size):=by
 cases A2 with
 |some ad=>exact run_append_elt_at he w ty base A n c xs ho ad m c2 news hl (fun j u hj=>by obtain⟨ad',e,h⟩:=hnews j u hj;injection e with e;subst e;exact h) h1 h63 hbytes hml
 |none=>
  have hm0:m=0:=by
   rcases Nat.eq_zero_or_pos m with h|h
   ·exact h
   ·have hp:=he.pos
    have:0<news.length:=by rw[hl];exact Nat.mul_pos h hp
    obtain⟨ad,e,_⟩:=hnews 0 news[0] (List.getElem?_eq_getElem this)
    cases e
  subst hm0
  have hn0:news=[]:=List.eq_nil_of_length_eq_zero (by simpa using hl)
  subst hn0
  obtain⟨i,hi,hzz⟩:=Option.map_eq_some_iff.1 he.info
  simp only[Prod.mk.injEq]at hzz
  obtain⟨hz,hs,hby⟩:=hzz
  have hgb:w.grownBy w (ownB A):=⟨rfl,rfl,rfl,yR _,fun _ _ _=>rfl⟩
  refine⟨A,c,w,?_,by simpa using ho,hgb,.inl rfl⟩
  rcases ho.2.2 with⟨he2,h0'⟩|⟨g,cap,cur,he2,_,_,hnc,_⟩
  ·injection he2 with e1 e2 e3
   subst e1;subst e2;subst e3
   simp[Builtin.append_,run_underlying he.under,sizeOf,typeInfo,hi,Builtin.lenOf,Builtin.firstCells]
  ·injection he2 with e1 e2 e3
   subst e1;subst e3
   simp[Builtin.append_,run_underlying he.under,sizeOf,typeInfo,hi,Builtin.lenOf,Builtin.firstCells,hnc,storeCells]
theorem wpList_append_row {E S:TypeId}{size bytes:Nat}{z:Value}(he:Elt E S size bytes z){w:World}{ops:Array Oper}{rest:List Oper}{o:Oper}{a:Act}{Q:Exit→Act→World→Prop}(hgd:o.guard=none)(s x:Operand)
 (hop:o.op= .call {callee:= .builtin .append,args:= #[s,x],argTypes:= #[S,S]})
 (base:Nat)(A:Option Addr)(n c:Nat)(xs:List Value)(hs:a.eval s= .slice A n c)(ho:OwnE E size w base A n c xs)(A2:Option Addr)(m c2:Nat)(news:List Value)(hx:a.eval x= .slice A2 m c2)(hl:news.length=m*size)
 (hnews: ∀j u,news[j]? =some u→ ∃ad,A2=some ad∧w.cell? (ad.add j)=some u)(h1: ∀u∈news,u.oneCell'=true)(h63:n+m≤4611686018427387904)(hbytes:(n+m)*bytes≤140737488355328)(hml:n+m≤maxLen)
 (h: ∀A' c' w',OwnE E size w' base A' (n+m) c' (xs++news)→w.grownBy w' (ownB A)→(ownB A'=ownB A∨ownB A'=some w.heap.size)→wpList Tryz.prog ops Q rest (a.put o.dst (.slice A' (n+m) c')) w'):wpList Tryz.prog ops Q (o::rest) a w:=
 wpList_plain hgd fun _ hK=>by
  obtain⟨A',c',w',hr,h2,h3,h4⟩:=run_append_row he w o.type base A n c xs ho A2 m c2 news hl hnews h1 h63 hbytes hml
  unfold Oper.wp execOp
  simp only[hop,resolve,invoke,builtin,Sem.run_bind,Sem.run_pure,Result.andThen_ok,List.map_toArray,List.map_cons,List.map_nil,hs,hx,hr]
  exact hK _ _ (h A' c' w' h2 h3 h4)
theorem own_news {E:TypeId}{size:Nat}{w:World}{base n c:Nat}{A:Option Addr}{xs:List Value}(h:OwnE E size w base A n c xs):xs.length=n*size∧ ∀j u,xs[j]? =some u→ ∃ad,A=some ad∧w.cell? (ad.add j)=some u:=
 ⟨h.len,fun j u hj=>by
   obtain⟨b,e,_,_,hc⟩:=h.cell (List.getElem?_eq_some_iff.1 hj).1
   exact⟨_,e,by rw[add_none,Nat.zero_add,hc,hj]⟩⟩
theorem step_append_new {E S:TypeId}{size bytes:Nat}{z:Value}(he:Elt E S size bytes z){w:World}{ops:Array Oper}{o:Oper}{a:Act}{K:Act→World→Prop}{Q:Exit→Act→World→Prop}{F:Prop}(hgd:o.guard=none)(s x:Operand)
 (hop:o.op= .call {callee:= .builtin .append,args:= #[s,x],argTypes:= #[S,S]})
 (base:Nat)(A:Option Addr)(c:Nat)(hs:a.eval s= .slice A 0 c)(ho:OwnE E size w base A 0 c [])(A2:Option Addr)(m c2:Nat)(news:List Value)(hx:a.eval x= .slice A2 m c2)(hl:news.length=m*size)
 (hnews: ∀j u,news[j]? =some u→ ∃ad,A2=some ad∧w.cell? (ad.add j)=some u)(h1: ∀u∈news,u.oneCell'=true)(h63:m≤4611686018427387904)(hbytes:m*bytes≤140737488355328)(hml:m≤maxLen)
 (h: ∀A' c' w',OwnE E size w' base A' m c' news→w.grownBy w' (ownB A)→(ownB A'=ownB A∨ownB A'=some w.heap.size)→K (a.put o.dst (.slice A' m c')) w'):
 if Region.wanted o (yielded ops a.tmps)=true then Oper.wp Tryz.prog o a w K Q else F:=by
 have hw:Region.wanted o (yielded ops a.tmps)=true:=by simp[Region.wanted,hgd]
 rw[if_pos hw]
 obtain⟨A',c',w',hr,h2,h3,h4⟩:=run_append_row he w o.type base A 0 c [] ho A2 m c2 news hl hnews h1 (by omega) (by simpa using hbytes) (by omega)
 rw[Nat.zero_add]at hr h2
 unfold Oper.wp execOp
 simp only[hop,resolve,invoke,builtin,Sem.run_bind,Sem.run_pure,Result.andThen_ok,List.map_toArray,List.map_cons,List.map_nil,hs,hx,hr]
 exact h A' c' w' h2 h3 h4
theorem wpList_append_new {E S:TypeId}{size bytes:Nat}{z:Value}(he:Elt E S size bytes z){w:World}{ops:Array Oper}{rest:List Oper}{o:Oper}{a:Act}{Q:Exit→Act→World→Prop}(hgd:o.guard=none)(s x:Operand)
 (hop:o.op= .call {callee:= .builtin .append,args:= #[s,x],argTypes:= #[S,S]})
 (base:Nat)(A:Option Addr)(c:Nat)(hs:a.eval s= .slice A 0 c)(ho:OwnE E size w base A 0 c [])(A2:Option Addr)(m c2:Nat)(news:List Value)(hx:a.eval x= .slice A2 m c2)(hl:news.length=m*size)
 (hnews: ∀j u,news[j]? =some u→ ∃ad,A2=some ad∧w.cell? (ad.add j)=some u)(h1: ∀u∈news,u.oneCell'=true)(h63:m≤4611686018427387904)(hbytes:m*bytes≤140737488355328)(hml:m≤maxLen)
 (h: ∀A' c' w',OwnE E size w' base A' m c' news→Below base w w'→wpList Tryz.prog ops Q rest (a.put o.dst (.slice A' m c')) w'):wpList Tryz.prog ops Q (o::rest) a w:=by
 refine wpList_append_row he hgd s x hop base A 0 c [] hs ho A2 m c2 news hx hl hnews h1 (by omega) (by simpa using hbytes) (by omega) fun A' c' w' h2 h3 h4=>?_
 rw[Nat.zero_add]at h2⊢
 exact h A' c' w' h2 (below_grown h3 ho.1 fun k hk=>(OwnE.ltB ho k hk).1)
theorem wordE:Elt 27 30 1 8 (.int .u64 0):=⟨Tryz.underlying30,by kernel_rfl,rfl,by decide⟩
theorem wordI:(Tryz.prog.info? 27).map (fun i=>(i.zero,i.size,i.bytes))=some (some (.int .u64 0),1,8):=by kernel_rfl
theorem make_w (p:Nat)(z:Int)(hz:z=(p:Int))(hp:p≤1000000)(w:World):
 (Instr.makeSlice 30 (.int .i64 z) (.int .i64 z)).run Tryz.prog w= .ok (.slice (some ⟨w.heap.size,0,none⟩) p p) (w.alloc (.cells (Array.replicate p (Value.int .u64 0)) 27)):=by
 subst hz
 have h:=run_make_row' (P:=Tryz.prog) 30 27 (.int .u64 0) 8 Tryz.underlying30 wordI rfl .i64 .i64 p (by omega) (by omega) w
 have e:madeCells #[Value.int .u64 0] p=Array.replicate p (Value.int .u64 0):=by
  apply Array.ext'
  rw[toList_madeCells_one]
  simp
 rw[e]at h
 exact h
def wv (l:List Nat):List Value:=l.map fun(x:Nat)=> .int .u64 (x:Int)
theorem wv_len (l:List Nat):(wv l).length=l.length:=by simp[wv]
theorem wv_one (l:List Nat): ∀u∈wv l,u.oneCell'=true:=fun u hu=>by
 obtain⟨x,_,rfl⟩:=List.mem_map.1 hu
 rfl
theorem arr_own {w:World}{base n c:Nat}{A:Option Addr}{l:List Nat}{Ft:Nat→Prop}(h:OwnE 27 1 w base A n c (wv l))(hF: ∀k,base≤k→k<w.heap.size→ ¬Ft k):Arr w Ft (.slice A n c) l:=by
 have hl:=h.len
 rw[wv_len,Nat.mul_one]at hl
 refine⟨A,n,c,rfl,hl,fun i hi=>?_⟩
 obtain⟨b,e,h1,h2,h3⟩:=h.cell (i:=i) (by rw[wv_len];exact hi)
 refine⟨b,e,h2,hF b h1 h2,h3.trans ?_⟩
 simp[wv,List.getElem?_eq_getElem hi]
theorem arr_news {w:World}{A:Option Addr}{n c:Nat}{l:List Nat}{Ft:Nat→Prop}(h:Arr w Ft (.slice A n c) l):(wv l).length=n*1∧ ∀j u,(wv l)[j]? =some u→ ∃ad,A=some ad∧w.cell? (ad.add j)=some u:=by
 obtain⟨A',n',c',e,hl,h⟩:=h
 injection e with e1 e2 e3
 subst e1;subst e2;subst e3
 refine⟨by rw[wv_len,hl,Nat.mul_one],fun j u hj=>?_⟩
 have hlt:j<l.length:=by
  have:=(List.getElem?_eq_some_iff.1 hj).1
  rw[wv_len]at this
  exact this
 obtain⟨b,rfl,hb,_,hc⟩:=h j hlt
 refine⟨_,rfl,?_⟩
 rw[add_none,Nat.zero_add,hc]
 rw[←hj]
 simp[wv,List.getElem?_eq_getElem hlt]
theorem empty_own (w:World)(base:Nat)(h:base≤w.heap.size):OwnE 27 1 (w.alloc (.cells #[] 27)) base (some ⟨w.heap.size,0,none⟩) 0 0 []:=
 ⟨Nat.le_trans h (by simp),World.ownsRow_lit w #[] 0 h (by decide) rfl⟩
theorem zeros_in (w:World)(R:Nat):InInts .u64 (w.alloc (.cells (Array.replicate R (Value.int .u64 0)) 27)) (some ⟨w.heap.size,0,none⟩) R (fun _=>0):=fun i hi=>by
 refine⟨w.heap.size,0,rfl,by simp,?_,(by show(Lit.int .u64 0).wf=true;decide)⟩
 have hb:Blk (w.alloc (.cells (List.replicate R (Value.int .u64 0)).toArray 27)) w.heap.size (List.replicate R (Value.int .u64 0)) 27:=Blk.new w _ _
 have hc:=hb.cell (i:=0+i) (v:= .int .u64 0) (by rw[Nat.zero_add,List.getElem?_replicate,if_pos hi])
 simpa using hc
theorem ints_zeros (R:Nat):Yc.ints (fun _=>0) R=List.replicate R 0:=by
 apply List.ext_getElem
 ·simp[Yc.ints]
 ·intro i h1 h2;simp[Yc.ints]
theorem arr_path {w w':World}{g:Nat}{p p':Pl}{v:Value}{l:List Nat}{B:Nat}(h:Arr w (p.away B g) v l)(k:Path g p w p' w'):Arr w' (p'.away B g) v l:=
 h.kept k.kept (fun _ _ h h2=>h (.inl h2)) fun b hb hf h2=>h2.elim (fun h2=>(k.foot b h2).elim (fun h=>hf (.inl h)) (fun h3=>absurd hb (by omega))) (fun h=>hf (.inr h))
theorem arr_len {w:World}{Ft:Nat→Prop}{A:Option Addr}{n c:Nat}{l:List Nat}(h:Arr w Ft (.slice A n c) l):l.length=n:=by
 obtain⟨A',n',c',e,hl,_⟩:=h
 injection e with e1 e2 e3
 rw[hl,e2]
theorem arr_at {w:World}{Ft:Nat→Prop}{A:Option Addr}{n c:Nat}{l:List Nat}(h:Arr w Ft (.slice A n c) l)(i:Nat)(hi:i<n)(x:Nat)(hx:l.getD i 0=x): ∃b,A=some ⟨b,0,none⟩∧w.cell? ⟨b,i,none⟩=some (.int .u64 (x:Int)):=by
 have hl:=arr_len h
 obtain⟨A',n',c',e,_,h⟩:=h
 injection e with e1 e2 e3
 subst e1
 obtain⟨b,e,hb,_,hc⟩:=h i (by omega)
 refine⟨b,e,?_⟩
 rw[hc,←hx,List.getD_eq_getElem?_getD,List.getElem?_eq_getElem (by omega)]
 rfl
theorem last_getD (l:List Nat)(j:Nat)(h:l.length=j+1):l.getD j 0=l.getLastD 0:=by
 rw[List.getLastD_eq_getLast?,List.getLast?_eq_getElem?,h,Nat.add_sub_cancel,List.getD_eq_getElem?_getD]
attribute [local irreducible] Mk.cells wpList Code.wp
variable {B g : Nat} {p : Pl} {m : Mk}
def Linked (B g:Nat)(p:Pl)(r:Mk×List Nat×Nat)(w:World)(e:Ending)(w':World):Prop:=
 ∃v' p',e= .returned (.tuple #[v',.int .i64 ((r.2.2:Nat):Int)])∧Arr w' (p'.away B g) v' r.2.1∧At w' B g p' r.1∧Path g p w p' w'
theorem link_any (A:Option Addr)(ka ca:Nat)(arr:List Nat)(n fr item:Nat)(w:World)(h:At w B g p m)(hl0:0<m.b.length)(hl7:0≤m.h.N 7∧m.h.N 7≤1000000)(hl18:0≤m.h.N 18∧m.h.N 18≤1000000)(ha:Arr w (p.away B g) (.slice A ka ca) arr)(hc:Chain m.b.length arr n)(hf:fr+8≤m.b.length)(hb:m.b.length≤100000)(hn:n≤100000)(hit:item≤1000000):
 Calls Tryz.prog 103 #[.pointer (some ⟨g,0,none⟩),.slice A ka ca,.int .i64 (n:Int),.int .u64 (fr:Int),.int .u64 (item:Int)] w (Linked B g p (Mk.link m arr n fr item) w):=by
 have HA:=yH h
 have HR:=yH ha
 have HC:=yH hc
 have hka:arr.length=ka:=by obtain⟨A',n',c',e,hl,_⟩:=ha;injection e with e1 e2 e3;rw[hl,e2]
 have hkb:ka≤25001:=by
  rcases Nat.eq_zero_or_pos ka with h0|h0
  ·omega
  ·have h1:=hc.ge (by omega)
   have h2:=rooms_ge (arr.length-1)
   omega
 have hrb:=rooms_le ka
 have HL:=yH hka
 clear h ha hc hka
 unfold Linked
 go_enter Tryz.func103,Tryz.ntmps103
 go_wp2
 go_loopw [12,13,14] (fun x y i wr=> ∃k:Nat,k≤ka∧i= .int .i64 (k:Int)∧x= .int .i64 ((rooms (k-1):Nat):Int)∧y= .int .i64 ((rooms k:Nat):Int)∧wr=w) (fun _ _ i _=>ka-(intOf i).toNat)
 case atStart=>exact⟨0,Nat.zero_le _,rfl,rfl,rfl,rfl⟩
 case round=>
  obtain⟨k,hkk,rfl,rfl,rfl,rfl⟩:=hrel
  by_cases hlt:k<ka
  ·have hr1:=rooms_le k
   have hr2:=(roomN_bd k).2
   have HS:=yH (rooms_succ k)
   have HRm:=yH (room_any k wr)
   generalize hrk:rooms k=rk at*
   have Hrk:=yH hrk
   clear hrk
   generalize rooms (k-1)=rk1 at*
   generalize roomN k=rn at*
   go_wp2_with(first|(go_at_call 153;(with_reducible refine HRm.out.mono ?_);rintro e w' ⟨rfl,rfl⟩)|fail)
   go_roundw
   case rel=>exact⟨k+1,by omega,by go_num,by rw[Nat.add_sub_cancel,Hrk.out],by rw[HS.out];go_num,trivial⟩
   case measure=>simp[intOf];omega
  ·obtain rfl:k=ka:=by omega
   by_cases he:n=rooms k
   ·have HLk:=yH (show Mk.link m arr n fr item=(Mk.linkNew m arr fr item,arr++ [m.b.length],1)by unfold Mk.link;rw[if_pos (by rw[HL.out];exact he)])
    have HE:=yH he
    generalize rooms (k-1)=rk1 at*
    generalize rooms k=rk at*
    subst he
    have hr2:=(roomN_bd k).2
    have hr1:=(roomN_bd k).1
    have HRm:=yH (room_any k wr)
    have hao:=aobj_len k
    have hoe:objB 6 (arrB 0 (Yc.ints (fun _=>0) (roomN k)))=aobj k:=by rw[ints_zeros];rfl
    have hpad:16+(8+8*roomN k)+padN (8+8*roomN k)=24+8*roomN k:=by unfold padN;omega
    have HPA:=yH (rputArray_any 0 (some ⟨wr.heap.size,0,none⟩) (roomN k) (roomN k) (fun _=>0) _ (zeros_in wr (roomN k)) (by omega) (by decide))
    rw[hoe,hpad]at HPA
    have hmk:=make_w (roomN k) (roomN k:Int) rfl (by omega)
    generalize roomN k=R at*
    unfold Owned at HPA
    go_upto_region 9 with(first
     |(go_at_call 153;(with_reducible refine HRm.out.mono ?_);rintro e w' ⟨rfl,rfl⟩)
     |(go_at_call 154;(refine HPA.out.mono ?_);rintro e w4 ⟨A4,c4,rfl,ho4,hb4⟩;have HO4:=yH ho4;have HB4:=yH (show Below wr.heap.size wr w4 from((Below.refl wr.heap.size wr).alloc (yR _) _).trans (hb4.mono (by simp)));have HA4:=yH (At.below HA.out HB4.out);clear ho4 hb4)
     |(go_at_call 100;(refine(objectS_any A4 _ c4 _ w4 HA4.out HO4.out.bytes HO4.out.2.1 hl0 (by omega) hl7).mono ?_);rintro e w5 ⟨rfl,b5,cb5,ha5,hp5⟩;have HA5:=yH ha5;have HP5:=yH ((Path.of_below (g:=g) (p:=p) HB4.out).trans hp5);clear ha5 hp5)
     |fail)
    have hol:=object_len m (aobj k)
    rw[hao]at hol
    have z137:w5.cell? ⟨g,137,none⟩=some (.int .u64 (m.h.N 18)):=At.cN HA5.out 18 137 (by decide) rfl
    have f137:=At.fz HA5.out 137
    have hwr:IntKind.u64.wrap (m.h.N 18+1)=m.h.N 18+1:=by rw[IntKind.wrap_u64];omega
    go_region
    have HA6:=yH (At.drew (At.setN HA5.out 18 137 (by decide) rfl (m.h.N 18+1)))
    have HP6:=yH ((HP5.out.set 137 (.int .u64 (m.h.N 18+1))).drew)
    generalize (w5.setCell ⟨g,137,none⟩ (.int .u64 (m.h.N 18+1))).drew=w6 at*
    clear z137 f137 hwr hmk
    obtain⟨P,hP⟩: ∃x,x=(if arr=[]then fr else arr.getLastD 0+16):=⟨_,rfl⟩
    have hP8:P+8≤m.b.length:=by
     rw[hP]
     split
     ·omega
     ·next hne=>have:=chain_last HC.out hne;omega
    have HPe:=yH hP
    have HRr:=yH (arr_path HR.out HP6.out)
    have HFoot:=yH HP6.out.foot
    have hszw:=HP6.out.kept.size
    clear hP
    rcases Nat.eq_zero_or_pos k with hk0|hk0
    ·have hPf:P=fr:=by rw[HPe.out,if_pos (List.eq_nil_of_length_eq_zero (by rw[HL.out];exact hk0))]
     have d0:((k:Int)==0)=true:=by simp[hk0]
     clear hk0
     go_upto_region 14 with(first
      |(go_at_call 104;(refine(putS_any P _ (by omega) _ w6 HA6.out (by show P+8≤(m.object (aobj k)).b.length;omega) (by show(m.object (aobj k)).b.length≤_;omega)).mono ?_);rintro e w7 ⟨rfl,ha7,hp7⟩;have HA7:=yH ha7;have HP7:=yH (HP6.out.trans hp7);clear ha7 hp7)
      |fail)
     have HRs:=yH (Arr.kept (Ft':=Pl.away {p with bb:=b5,cb:=cb5} B g) (arr_path (p':={p with bb:=b5,cb:=cb5}) HR.out HP7.out) (KeptF.of_below (F:=None') ((Below.refl w7.heap.size w7).alloc (yR _) (.cells #[] 27))) (fun _ _ _ h=>h.elim) (fun _ _ h=>h))
     obtain⟨nl,nc⟩:=arr_news HRs.out
     have hl1:m.b.length≤100000:=hb
     go_upto_region 15 with(first
      |(at_builtin;(refine wpList_append_new wordE rfl (.tmp 67) (.tmp 68) rfl w7.heap.size (some ⟨w7.heap.size,0,none⟩) 0 rfl (empty_own w7 w7.heap.size (yR _)) A k ca (wv arr) rfl nl nc (wv_one _) (by omega) (by omega) (by unfold maxLen;omega) ?_);intro A9 c9 w9 ho9 hb9;have HO9:=yH ho9;have HB9:=yH (show Below w7.heap.size w7 w9 from((Below.refl w7.heap.size w7).alloc (yR _) _).trans hb9);clear ho9 hb9)
      |(at_builtin;(refine wpList_append_row wordE rfl (.tmp 69) (.tmp 71) rfl w7.heap.size A9 k c9 (wv arr) rfl (OwnE.alloc HO9.out _) (some ⟨w9.heap.size,0,none⟩) 1 1 (wv [m.b.length]) rfl rfl (fun q u hq=>⟨_,rfl,Blk.news (Blk.new w9 _ _) q u hq⟩) (wv_one _) (by omega) (by omega) (by unfold maxLen;omega) ?_);intro A10 c10 w10 ho10 hgr10 hat10;have HO10:=yH ho10;have HB10:=yH ((HB9.out.alloc HB9.out.size _).trans (below_grown hgr10 (by have:=HB9.out.size;simp;omega) (fun q hq=>(OwnE.ltB HO9.out q hq).1)));clear ho10 hgr10 hat10)
      |fail)
     have hwe:wv arr++wv [m.b.length]=wv (arr++ [m.b.length]):=by simp[wv]
     have hoF:=HO10.out
     rw[hwe]at hoF
     obtain⟨b10,rfl,_,hbl10,hcl10⟩:=OwnE.cell hoF (i:=k) (by rw[wv_len,List.length_append,List.length_singleton,HL.out];omega)
     rw[show(wv (arr++ [m.b.length]))[k]? =some (.int .u64 (m.b.length:Int))by unfold wv;rw[List.getElem?_map,List.getElem?_append_right (by rw[HL.out];omega),HL.out,Nat.sub_self];rfl]at hcl10
     have HA10:=yH (At.below HA7.out HB10.out)
     have HP10:=yH (HP7.out.below HB10.out)
     have hl12:(put8 (m.object (aobj k)).b P (m.b.length:Nat)).length=m.b.length+(24+8*R):=by rw[put8_len _ _ _ (by omega),hol]
     go_upto_region 16 with(first
      |(go_at_call 104;(refine(putS_any (m.b.length+24) _ (by omega) _ w10 HA10.out (by show _≤(put8 (m.object (aobj k)).b P (m.b.length:Nat)).length;omega) (by show(put8 (m.object (aobj k)).b P (m.b.length:Nat)).length≤_;omega)).mono ?_);rintro e w11 ⟨rfl,ha11,hp11⟩;have HA11:=yH ha11;have HP11:=yH (HP10.out.trans hp11);have HPx:=yH hp11;clear ha11 hp11)
      |fail)
     have HAr:=yH (arr_path (arr_own (Ft:=Pl.away {p with bb:=b5,cb:=cb5} B g) hoF (fun q h1 h2 h3=>h3.elim (fun h3=>absurd (At.lt HA7.out q h3).2 (by omega)) (fun h3=>by have:=(At.lt HA7.out g (.inl rfl));omega))) HPx.out)
     clear hcl10 hoF
     go_wp2
     go_ret2
     rw[HLk.out]
     refine⟨_,_,rfl,HAr.out,At.same HA11.out rfl ?_ rfl ?_ rfl rfl rfl,HP11.out⟩
     ·show setN (m.object (aobj k)).h 18 _=setN (m.object (aobj arr.length)).h 18 _
      rw[HL.out]
     ·show put8 (put8 (m.b++aobj k) P _) _ _=put8 (put8 (m.b++aobj arr.length) _ _) _ _
      rw[HL.out,HPe.out]
    ·obtain⟨j,rfl⟩: ∃j,k=j+1:=⟨k-1,by omega⟩
     have hPf:P=arr.getLastD 0+16:=by rw[HPe.out,if_neg (fun e=>by have:=HL.out;rw[e]at this;cases this)]
     have d0:(((j+1:Nat):Int)==0)=false:=by simp;omega
     obtain⟨b,rfl,hcl⟩:=arr_at HRr.out j (by omega) (arr.getLastD 0) (last_getD arr j HL.out)
     have hlb:arr.getLastD 0≤200000:=by omega
     obtain⟨la,hla⟩: ∃x,x=arr.getLastD 0:=⟨_,rfl⟩
     rw[←hla]at hcl hlb hPf
     clear hla
     go_upto_region 14 with(first
      |(go_at_call 104;(refine(putS_any P _ (by omega) _ w6 HA6.out (by show P+8≤(m.object (aobj (j+1))).b.length;omega) (by show(m.object (aobj (j+1))).b.length≤_;omega)).mono ?_);rintro e w7 ⟨rfl,ha7,hp7⟩;have HA7:=yH ha7;have HP7:=yH (HP6.out.trans hp7);clear ha7 hp7)
      |fail)
     have HRs:=yH (Arr.kept (Ft':=Pl.away {p with bb:=b5,cb:=cb5} B g) (arr_path (p':={p with bb:=b5,cb:=cb5}) HR.out HP7.out) (KeptF.of_below (F:=None') ((Below.refl w7.heap.size w7).alloc (yR _) (.cells #[] 27))) (fun _ _ _ h=>h.elim) (fun _ _ h=>h))
     obtain⟨nl,nc⟩:=arr_news HRs.out
     have hl1:m.b.length≤100000:=hb
     go_upto_region 15 with(first
      |(at_builtin;(refine wpList_append_new wordE rfl (.tmp 67) (.tmp 68) rfl w7.heap.size (some ⟨w7.heap.size,0,none⟩) 0 rfl (empty_own w7 w7.heap.size (yR _)) (some ⟨b,0,none⟩) (j+1) ca (wv arr) rfl nl nc (wv_one _) (by omega) (by omega) (by unfold maxLen;omega) ?_);intro A9 c9 w9 ho9 hb9;have HO9:=yH ho9;have HB9:=yH (show Below w7.heap.size w7 w9 from((Below.refl w7.heap.size w7).alloc (yR _) _).trans hb9);clear ho9 hb9)
      |(at_builtin;(refine wpList_append_row wordE rfl (.tmp 69) (.tmp 71) rfl w7.heap.size A9 (j+1) c9 (wv arr) rfl (OwnE.alloc HO9.out _) (some ⟨w9.heap.size,0,none⟩) 1 1 (wv [m.b.length]) rfl rfl (fun q u hq=>⟨_,rfl,Blk.news (Blk.new w9 _ _) q u hq⟩) (wv_one _) (by omega) (by omega) (by unfold maxLen;omega) ?_);intro A10 c10 w10 ho10 hgr10 hat10;have HO10:=yH ho10;have HB10:=yH ((HB9.out.alloc HB9.out.size _).trans (below_grown hgr10 (by have:=HB9.out.size;simp;omega) (fun q hq=>(OwnE.ltB HO9.out q hq).1)));clear ho10 hgr10 hat10)
      |fail)
     have hwe:wv arr++wv [m.b.length]=wv (arr++ [m.b.length]):=by simp[wv]
     have hoF:=HO10.out
     rw[hwe]at hoF
     obtain⟨b10,rfl,_,hbl10,hcl10⟩:=OwnE.cell hoF (i:=(j+1)) (by rw[wv_len,List.length_append,List.length_singleton,HL.out];omega)
     rw[show(wv (arr++ [m.b.length]))[(j+1)]? =some (.int .u64 (m.b.length:Int))by unfold wv;rw[List.getElem?_map,List.getElem?_append_right (by rw[HL.out];omega),HL.out,Nat.sub_self];rfl]at hcl10
     have HA10:=yH (At.below HA7.out HB10.out)
     have HP10:=yH (HP7.out.below HB10.out)
     have hl12:(put8 (m.object (aobj (j+1))).b P (m.b.length:Nat)).length=m.b.length+(24+8*R):=by rw[put8_len _ _ _ (by omega),hol]
     go_upto_region 16 with(first
      |(go_at_call 104;(refine(putS_any (m.b.length+24) _ (by omega) _ w10 HA10.out (by show _≤(put8 (m.object (aobj (j+1))).b P (m.b.length:Nat)).length;omega) (by show(put8 (m.object (aobj (j+1))).b P (m.b.length:Nat)).length≤_;omega)).mono ?_);rintro e w11 ⟨rfl,ha11,hp11⟩;have HA11:=yH ha11;have HP11:=yH (HP10.out.trans hp11);have HPx:=yH hp11;clear ha11 hp11)
      |fail)
     have HAr:=yH (arr_path (arr_own (Ft:=Pl.away {p with bb:=b5,cb:=cb5} B g) hoF (fun q h1 h2 h3=>h3.elim (fun h3=>absurd (At.lt HA7.out q h3).2 (by omega)) (fun h3=>by have:=(At.lt HA7.out g (.inl rfl));omega))) HPx.out)
     clear hcl10 hoF
     go_wp2
     go_ret2
     rw[HLk.out]
     refine⟨_,_,rfl,HAr.out,At.same HA11.out rfl ?_ rfl ?_ rfl rfl rfl,HP11.out⟩
     ·show setN (m.object (aobj (j+1))).h 18 _=setN (m.object (aobj arr.length)).h 18 _
      rw[HL.out]
     ·show put8 (put8 (m.b++aobj (j+1)) P _) _ _=put8 (put8 (m.b++aobj arr.length) _ _) _ _
      rw[HL.out,HPe.out]
   ·have HLk:=yH (show Mk.link m arr n fr item=(Mk.linkOld m arr n item,arr,n-rooms (arr.length-1)+1)by unfold Mk.link;rw[if_neg (by rw[HL.out];exact he)])
    have hch:=chain_old HC.out (by rw[HL.out];exact he)
    have hlast:=chain_last HC.out (chain_ne HC.out (by rw[HL.out];exact he))
    have hrn:=(roomN_bd (arr.length-1)).2
    rw[HL.out]at hch hlast hrn HLk
    have d0:((n:Int)==((rooms k:Nat):Int))=false:=by simp;omega
    generalize hrk1:rooms (k-1)=rk1 at*
    generalize hrk:rooms k=rk at*
    generalize roomN (k-1)=R at*
    have HE0:=yH hrk
    have HE1:=yH hrk1
    clear hrk hrk1
    have hk0:0<k:=by
     rcases Nat.eq_zero_or_pos k with h|h
     ·have h1:=List.eq_nil_of_length_eq_zero (show arr.length=0 by rw[HL.out];exact h)
      have h2:=HC.out.le
      rw[h1]at h2
      exfalso
      have h3:n=0:=Nat.le_zero.1 h2
      have h4:=HE0.out
      rw[h]at h4
      exact he (h3.trans (show 0=rk from h4))
     ·exact h
    obtain⟨j,rfl⟩: ∃j,k=j+1:=⟨k-1,by omega⟩
    obtain⟨b,rfl,hcl⟩:=arr_at HR.out j (by omega) (arr.getLastD 0) (last_getD arr j HL.out)
    have hlb:arr.getLastD 0≤200000:=by omega
    obtain⟨la,hla⟩: ∃x,x=arr.getLastD 0:=⟨_,rfl⟩
    have HLa:=yH hla
    rw[←hla]at hcl hlast hlb
    clear hla he
    obtain⟨q,hq⟩: ∃q:Nat,n=rk1+q:=⟨n-rk1,by omega⟩
    have HLo:=yH (show Mk.linkOld m arr n item={m with b:=put8 m.b (la+24+8*q) item}by unfold Mk.linkOld;rw[←HLa.out,HL.out,HE1.out,hq,Nat.add_sub_cancel_left])
    have HQ:=yH hq
    subst hq
    go_upto_region 16 with(first
     |(go_at_call 104;(refine(putS_any (la+24+8*q) _ (by omega) _ wr HA.out (by omega) (by omega)).mono ?_);rintro e w11 ⟨rfl,ha11,hp11⟩;have HA11:=yH ha11;have HP11:=yH hp11;clear ha11 hp11)
     |fail)
    go_wp2
    go_ret2
    rw[HLk.out]
    refine⟨_,p,?_,arr_path HR.out HP11.out,?_,HP11.out⟩
    ·have e:((rk1+q-rk1+1:Nat):Int)=(rk1:Int)+(q:Int)-(rk1:Int)+1:=by omega
     show Ending.returned (Value.tuple #[.slice (some ⟨b,0,none⟩) (j+1) ca,.int .i64 ((rk1:Int)+(q:Int)-(rk1:Int)+1)])=Ending.returned (Value.tuple #[.slice (some ⟨b,0,none⟩) (j+1) ca,.int .i64 ((rk1+q-rk1+1:Nat):Int)])
     rw[e]
    ·show At _ _ _ _ (Mk.linkOld m arr (rk1+q) item)
     rw[HLo.out]
     exact HA11.out
end Nf
end Go.Proofs.YtiddkgcafpaekaaGreat
