/-
  Texts beneath.
-/
import Derived.Test.YteaikbodkgjkdaaGreatQl18
set_option linter.unusedVariables false
set_option linter.unusedSimpArgs false
set_option maxRecDepth 100000
set_option maxHeartbeats 4000000
open Go.ChangeShapes Go.WideShapes Go.ChangeAt Go.RowKit
namespace Go.Proofs.YteaikbodkgjkdaaGreat
namespace Nee
open Bytes8 Blk8 Own8 OwnE Ob Oc Oj Ga Ma Kf Mb Mc Md Me Mf Mg Fa Fb Fc Sg Dc Na Nb Nc Nd
theorem aOC {l:List (Kn×Value)}{a:List Kn}(e:l.map Prod.fst=a){s:List Int}{k:Nat}(b:k<l.length)(h:l[k].1.text=s)(c: ∀j (hj:j<l.length),j<k→l[j].1.text≠s):idxK a s=some k:=by
 subst e
 unfold idxK
 rw[List.findIdx?_eq_some_iff_getElem]
 exact⟨by simpa using b,by simp[h],fun j hj=>by simpa using c j (by omega) hj⟩
theorem aKt {l:List (Kn×Value)}{b:List Kn}(e:l.map Prod.fst=b){s:List Int}(d: ∀j (a:j<l.length),l[j].1.text≠s):idxK b s=none:=by
 subst e
 unfold idxK
 rw[List.findIdx?_eq_none_iff]
 intro x f
 obtain⟨q,c,rfl⟩:=List.mem_map.1 f
 obtain⟨j,a,rfl⟩:=List.mem_iff_getElem.1 c
 simpa using d j a
theorem pay_len (n v:List Int):(pay n v).length=n.length+1+v.length:=by unfold pay;simp;omega
attribute [local irreducible] Mk.cells wpList Code.wp
variable {B g : Nat} {p : Pl} {m : Mk}
theorem aMP (d v:List Int)(w:World)(h:At w B g p m)(I:Inv m)(hn:AllB d)(hv:AllB v)(hf:d.length≤64∧v.length≤256)(hb:m.b.length≤80000):
 Calls Tryz.prog 66 #[.pointer (some ⟨g,0,none⟩),pv d v] w fun e w'=>e= .returned (.int .i64 ((Mk.dataOf m d (pay d v)).1:Nat))∧StpD B g p (Mk.dataOf m d (pay d v)).2 w w':=by
 have f:=yH fun w=>aBM d v (by omega) w
 have bz:=pay_len d v
 have hs:=aBr hn hv
 generalize pay d v=s at*
 obtain⟨hf1,bX⟩:=hf
 have Z:s.length≤400:=by omega
 clear bz
 have ba:=yH h
 have G:=yH I
 have bF:=I.ds
 have b0:=I.len
 clear h I
 obtain⟨A0,az⟩: ∃x,T d=x:=⟨_,rfl⟩
 have bG:=yH az
 dsimp only[pv,box]at*
 rw[az]at f⊢
 clear az
 generalize T v=V at*
 have b1:Below w.heap.size w ((w.alloc (.cells #[.string A0,.string V] 24)).alloc (.cells #[.string A0,.string V] 24)):=((yB _ _).alloc (yR _) _).alloc (by simp) _
 have R1:=yH (show Blk ((w.alloc (.cells #[.string A0,.string V] 24)).alloc (.cells #[.string A0,.string V] 24)) w.heap.size [.string A0,.string V] 24 from(Blk.new w _ _).alloc _)
 have z:=yH (At.below ba.out b1)
 have ah:=yH b1
 clear b1
 go_enter Tryz.func66,Tryz.ntmps66
 go_upto_region 2 with(first|(go_at_call 43;(with_reducible refine(f.out _).mono ?_);rintro e w1 ⟨rfl,rfl⟩)|fail)
 generalize (w.alloc (.cells #[.string A0,.string V] 24)).alloc (.cells #[.string A0,.string V] 24)=w1 at*
 have c4:=At.cd z.out
 have HL:=yH (aAy z.out.dr)
 have bN:=yH fun(q:Kn×Value) (hq:q∈p.dl)=>(G.out.dat q.1 (by rw[←z.out.dm];exact List.mem_map.2 ⟨q,hq,rfl⟩)).2.1
 obtain⟨nd,aK⟩: ∃n,p.nd=n:=⟨_,rfl⟩
 have HN:=yH aK
 rw[aK]at c4 HL
 clear aK
 have bS:nd≤80000:=by
  have h1:=G.out.dn
  rw[←z.out.dm,List.length_map,HL.out]at h1
  omega
 go_wp2
 go_loopw [6] (fun i wr=> ∃k:Nat,k≤nd∧i= .int .i64 (k:Int)∧Hid (∀j (hj:j<p.dl.length),j<k→p.dl[j].1.text≠s)∧wr=w1) (fun i _=>nd-(intOf i).toNat)
 case atStart=>exact⟨0,Nat.zero_le _,rfl,yH fun _ _ h=>absurd h (Nat.not_lt_zero _),rfl⟩
 case round=>
  obtain⟨k,bU,rfl,aa,rfl⟩:=hrel
  by_cases bu:k<nd
  ·have ay:k<p.dl.length:=by rw[HL.out];exact bu
   obtain⟨b,bg,bZ,d0,d1,d2,d3,d4⟩:=aBp z.out.dr k ay
   rw[bg]at c4
   clear d1 d2 d3 d4 bg
   have ad:=yH (bN.out _ (List.getElem_mem ay))
   have H:=yH fun h:p.dl[k].1.text=s=>aOC z.out.dm ay h aa.out
   have av:=yH fun(h:p.dl[k].1.text≠s) j (hj:j<p.dl.length) (hjk:j<k+1)=>show p.dl[j].1.text≠s from by
    rcases Nat.lt_or_ge j k with h1|h1
    ·exact aa.out j hj h1
    ·have:j=k:=by omega
     subst this
     exact h
   generalize p.dl[k]=q at*
   by_cases he:q.1.text=s
   ·have e1:((T q.1.text).toList==(T s).toList)=true:=by rw[aHg ad.out hs];simp[he]
    have HQ:=yH (H.out he)
    have HP:=yH (Path.of_below (g:=g) (p:=p) ah.out)
    clear he av H ad f
    generalize T q.1.text=Q at*
    generalize T s=R at*
    go_wp2
    go_ret
    unfold Mk.dataOf
    rw[HQ.out]
    exact⟨rfl,p,z.out,HP.out,fun x hx=> .inl hx,rfl⟩
   ·have e1:((T q.1.text).toList==(T s).toList)=false:=by rw[aHg ad.out hs];simp[he]
    have HQ:=yH (av.out he)
    clear he av H ad f
    generalize T q.1.text=Q at*
    generalize T s=R at*
    go_wp2
    go_roundw
    case rel=>exact⟨k+1,by omega,by go_num,HQ,trivial⟩
    case measure=>simp[intOf];omega
  ·obtain rfl:k=nd:=by omega
   have H:=yH (aKt z.out.dm fun j hj=>aa.out j hj (by rw[←HL.out];exact hj))
   clear aa f
   obtain⟨X,bk⟩: ∃X,s.length=X:=⟨_,rfl⟩
   have HS:=yH bk
   have bP:X≤400:=by omega
   clear bk
   have HO:=yH fun(W:World) (c:Nat) (h:Bytes W (some ⟨wr.heap.size,0,none⟩) s)=>aFO m.C.keyed m.C.F _ s X c W G.out.F h HS.out (by omega)
   go_upto_region 7 with fail
   have HB:=yH z.out.st.st
   have pk:=HB.out.cell (Mk.get_keyed _ _)
   have pF:=Mk.file_range HB.out
   obtain⟨cv,mk,E⟩:=aBL s hs
   have a0:=fun w=>(E w).1
   simp only[HS.out]at a0
   have bJ:=yH ((E wr.drew).2.1 wr.heap.size rfl)
   have aM:=yH (((yB wr.heap.size wr).drew).trans (E wr.drew).2.2.below)
   have a8:=yH (HB.out.below aM.out HB.out.lt)
   have qk:=a8.out.cell (Mk.get_keyed _ _)
   have qF:=Mk.file_range a8.out
   have aA:=yH E
   clear E
   have bx:=Tryz.underlying61
   have br:(Tryz.prog.info? 61).map (·.size)=some (fileV m.C).length:=by kernel_rfl
   refine wp_region_noPanic ?_
   refine wp_region_held_drew (S:=fun w':World=>w'.cell? ⟨g,51,none⟩=some (.bool m.C.keyed)∧w'.rangeAt g 0 (fileV m.C)) (by kernel_rfl) (by exact⟨pk,pF⟩) (fun hHeld=>?_)
   refine tq 0 36 rfl (fun W hSw=>by go_simp;try (with_reducible rfl)) ?_
   try simp only[Act.put,sA,sZ,sS]
   refine tq 1 37 rfl (fun W hSw=>by go_simp;try (with_reducible rfl)) ?_
   try simp only[Act.put,sA,sZ,sS]
   refine tq 2 38 rfl (fun W hSw=>by go_simp;try (with_reducible rfl)) ?_
   try simp only[Act.put,sA,sZ,sS]
   refine tq 3 39 rfl (fun W hSw=>by go_simp;try (with_reducible rfl)) ?_
   try simp only[Act.put,sA,sZ,sS]
   refine tq 4 40 rfl (fun W hSw=>by have b3:=hSw.1;go_simp;try (with_reducible rfl)) ?_
   try simp only[Act.put,sA,sZ,sS]
   refine tq 5 41 rfl (fun W hSw=>by go_simp;try (with_reducible rfl)) ?_
   try simp only[Act.put,sA,sZ,sS]
   refine tq 6 42 rfl (fun W hSw=>by go_simp;try (with_reducible rfl)) ?_
   try simp only[Act.put,sA,sZ,sS]
   refine tq 7 43 rfl (fun W hSw=>by go_simp;try (with_reducible rfl)) ?_
   try simp only[Act.put,sA,sZ,sS]
   refine tq 8 44 rfl (fun W hSw=>by go_simp;try (with_reducible rfl)) ?_
   try simp only[Act.put,sA,sZ,sS]
   refine tk (i:=9) (oi:=⟨some 45,_,_,_,_,_⟩) rfl (yieldsIf_load_mid (by rfl) _ _ rfl _ _ rfl _ _ (fun _ h=>h.2) bx rfl br) ?_
   try simp only[Act.put,sA,sZ,sS]
   refine tq 10 46 rfl (fun W hSw=>by go_simp;try (with_reducible rfl)) ?_
   try simp only[Act.put,sA,sZ,sS]
   refine rd 11 rfl (fun K hK=>?_)
   go_simp
   skip
   try go_wp2_with fail
   refine hK.out _ _ (by exact⟨qk,qF⟩) (fun hHeld=>?_)
   clear hK K
   try simp only[Act.put,sA,sZ,sS]
   refine rd 12 rfl (fun K hK=>?_)
   go_simp
   (refine(HO.out _ _ bJ.out).mono ?_);rintro e w2 ⟨rfl,aX⟩;have aF:=yH (aM.out.trans (aX.mono aM.out.size));have aT:=yH (HB.out.below aF.out HB.out.lt);have rk:=aT.out.cell (Mk.get_keyed _ _);have rF:=Mk.file_range aT.out;clear aX
   try go_wp2_with fail
   refine hK.out _ _ (by exact⟨rk,rF⟩) (fun hHeld=>?_)
   clear hK K
   try simp only[Act.put,sA,sZ,sS]
   refine tq 13 7 rfl (fun W hSw=>by go_simp;try (with_reducible rfl)) ?_
   try simp only[Act.put,sA,sZ,sS]
   refine wpAnyH_done (by kernel_rfl) ?_ _
   refine NoPanic.normal ?_
   have bD:=yH (At.below z.out aF.out)
   have bs:=yH ((Path.refl g p wr).below aF.out)
   clear pk pF qk qF rk rF
   clear HO
   have bC:=aF5 m.C.keyed (idL m.C.F) s
   generalize aR:ofS m.C.keyed (idL m.C.F) s=hh at*
   have HH:=yH aR
   clear aR
   have bH:=yH ((aA.out w2).2.1 w2.heap.size rfl)
   have bj:=yH (aA.out w2).2.2.below
   have a9:=yH fun(W:World) (A:Option Addr) (c:Nat) (h:Bytes W A s)=>aGW hh 0 0 0 0 0 A s X c W h HS.out (by omega) (aQy bC (by decide) (by decide) (by decide) (by decide) (by decide))
   obtain⟨b4,bR⟩:=bF
   have a3: ¬(m.C.ds:Int)=0:=by omega
   have bW:padN (48+X)≤8:=by unfold padN;omega
   have bm:m.b.length+(16+(48+X)+padN (48+X))≤90000:=by omega
   obtain⟨Y,ak,bQ⟩: ∃Y:Nat,hh%(m.C.ds:Int)=(Y:Int)∧Y<m.C.ds:=⟨(hh%(m.C.ds:Int)).toNat,by have:=Int.emod_nonneg hh a3;omega,by have:=Int.emod_nonneg hh a3;have:=Int.emod_lt_of_pos hh (show(0:Int)<(m.C.ds:Int)by omega);omega⟩
   go_upto_region 10 with(first
    |(go_at_call 109;(with_reducible refine(a9.out _ _ _ bH.out).mono ?_);rintro e w4 ⟨A4,bv,rfl,bh,bn⟩;have aB:=yH bh;have a2:=yH (bj.out.trans (bn.mono bj.out.size));have bq:=yH (At.below bD.out a2.out);have bA:=yH (bs.out.below a2.out);clear bh bn)
    |(go_at_call 68;(refine(aCc A4 _ bv _ w4 bq.out aB.out.bytes aB.out.2.1 (by omega) (by omega) (by have:=G.out.n7;omega)).mono ?_);rintro e w5 ⟨rfl,b5,u,aS,bf⟩;have aw:=yH aS;have bK:=yH (bA.out.trans bf);have f5:w5.cell? ⟨g,48,none⟩=some (.int .i64 (m.C.ds:Int)):=aw.out.st.st.cell (Mk.get_ds _ _);clear aS bf)
    |fail)
   have bL:=yH ak
   clear ak
   obtain⟨ys,aG⟩: ∃x,x=objB 1 (nums [hh,0,0,0,0,0]++s):=⟨_,rfl⟩
   rw[←aG]at aw
   have aJ:(m.object ys).b.length=m.b.length+(16+(48+X)+padN (48+X)):=by show(m.b++ys).length=_;rw[yA,aG,aB.out.2.1]
   have bV:(m.object ys).b.length≤90000:=by rw[aJ];exact bm
   have a:=yH (At.drew aw.out)
   have am:w5.drew.cell? ⟨g,144,none⟩=some (.slice p.D k p.cd):=HN.out▸At.cd (p:={p with bb:=b5,cb:=u}) a.out
   have n2:(m.object ys).h.N 2=((288:Nat):Int):=G.out.n2
   have ai:w5.drew.cell? ⟨g,121,none⟩=some (.int .u64 ((288:Nat):Int)):=(At.cN a.out 2 121 (by decide) rfl).trans (congrArg (fun x=>some (Value.int .u64 x)) n2)
   have a7:=yH z.out.dm
   have ab:m.datas.length=k:=by rw[←a7.out,List.length_map,HL.out]
   have aH:=yH (aIe g b5 u (m.object ys).b.length 288 m.b.length Y k p.cd _ _ _ p.D m.datas B w5.drew a.out.st.st (Mk.get_b _ _) a.out.st.own a.out.st.ne (by omega) (a7.out▸aIf a.out.dr) ab (by have:=G.out.dn;omega) (by omega) (by rw[aJ];omega) (fun q hq=>by have:=(G.out.dat q hq).1;rw[aJ];omega))
   obtain⟨iS,ac⟩: ∃x,x=inSlot m.datas Y:=⟨_,rfl⟩
   have bO:iS≤k:=by rw[ac,←ab];exact Me.aCv _ _
   rw[←ac]at aH
   have bt:=yH ac
   clear ac
   obtain⟨n19,ap⟩: ∃n:Nat,m.h.N 19=(n:Int):=⟨(m.h.N 19).toNat,by have:=G.out.n19;omega⟩
   have a5:=yH ap
   have b2:=aN4 n19 iS
   go_region_held3 (fun W=>W.cell? ⟨g,144,none⟩=some (.slice p.D k p.cd)∧W.cell? ⟨g,121,none⟩=some (.int .u64 ((288:Nat):Int))) (first|(with_reducible exact⟨am,ai⟩)|(with_reducible exact⟨aj,aq⟩)|go_keep) (first
    |(go_at_call 110;(refine aH.out.mono ?_);rintro e w6 ⟨rfl,aC,aD⟩;have M:=yH (At.put8 a.out aC.2.1 aC aD);have bB:=yH (bK.out.drew.trans (Path.put8 (p:={p with bb:=b5,cb:=u}) aD));have aj:w6.cell? ⟨g,144,none⟩=some (.slice p.D k p.cd):=HN.out▸At.cd (p:={p with bb:=b5,cb:=u}) M.out;have aq:w6.cell? ⟨g,121,none⟩=some (.int .u64 ((288:Nat):Int)):=(At.cN M.out 2 121 (by decide) rfl).trans (congrArg (fun x=>some (Value.int .u64 x)) n2);clear aC aD)
    |fail)
   have aO:w6.cell? ⟨g,138,none⟩=some (.int .u64 (n19:Int)):=(At.cN M.out 19 138 (by decide) rfl).trans (congrArg (fun x=>some (Value.int .u64 x)) ap)
   have aQ:=At.fz M.out 138
   clear am ai aj aq
   go_upto_region 11 with fail
   go_region
   have aL:=yH (At.drew (At.setN M.out 19 138 (by decide) rfl ((max n19 iS:Nat):Int)))
   have bp:=yH ((bB.out.set 138 (.int .u64 ((max n19 iS:Nat):Int))).drew)
   generalize (w6.setCell ⟨g,138,none⟩ (.int .u64 ((max n19 iS:Nat):Int))).drew=w7 at*
   clear aO aQ
   go_upto_region 12 with fail
   have a6:w7.cell? ⟨g,134,none⟩=some (.int .u64 (m.h.N 15)):=At.cN aL.out 15 134 (by decide) rfl
   have bi:=At.fz aL.out 134
   have bY:IntKind.u64.wrap (m.h.N 15+1)=m.h.N 15+1:=by have:=G.out.n15;rw[IntKind.wrap_u64];omega
   go_region
   have y:=yH (At.drew (At.setN aL.out 15 134 (by decide) rfl (m.h.N 15+1)))
   have bo:=yH ((bp.out.set 134 (.int .u64 (m.h.N 15+1))).drew)
   generalize (w7.setCell ⟨g,134,none⟩ (.int .u64 (m.h.N 15+1))).drew=w8 at*
   clear a6 bi
   have aP:w8.cell? ⟨g,144,none⟩=some (.slice p.D k p.cd):=HN.out▸At.cd (p:={p with bb:=b5,cb:=u}) y.out
   go_upto_region 14 with(first
    |(at_builtin;(refine aAe aMN rfl (.tmp 107) (.tmp 112) rfl B p.D k p.cd (kf p.dl) rfl (HN.out▸OwnE.alloc y.out.dr _) ⟨w8.heap.size,0,none⟩ 1 1 (knC ⟨s,m.b.length,Y,0,[]⟩ (.slice none 0 0)) rfl rfl (Blk.news (Blk.new w8 _ 142)) (by simp[knC,Value.oneCell']) (by omega) (by omega) (by unfold maxLen;omega) ?_);intro D9 c9 w9 bd t aV;have bc:=yH (At.pushD y.out w9 _ ⟨s,m.b.length,Y,0,[]⟩ (.slice none 0 0) D9 c9 (congrArg (· +1) HN.out.symm) bd t aV (Arr.nil _ _));have x9:w9.cell? ⟨g,144,none⟩=some (.slice p.D k p.cd):=HN.out▸(aCz (p:={p with bb:=b5,cb:=u}) y.out t).cell (Mk.get_d _ _);have z9:w9.frozen? ⟨g,144,none⟩=false:=(aCz y.out t).frozen 144;clear bd t)
    |fail)
   obtain⟨a1,aZ⟩:=bc.out
   have aN:=yH (bo.out.trans aZ)
   have e1:ys=Mk.dobj m s:=by rw[aG,←HH.out];rfl
   have e2:Y=Mk.dslot m s:=by
    have:=bL.out
    rw[←HH.out]at this
    unfold Mk.dslot Mk.sum Cf.file
    rw[this]
    exact(Int.toNat_natCast Y).symm
   have bw:=yH (At.same (m':=Mk.put1 m s) a1 rfl (by
    show setN (setN (m.object ys).h 19 _) 15 _=setN (setN (m.object (Mk.dobj m s)).h 19 _) 15 _
    rw[e1,←e2,←bt.out,a5.out]
    congr 2
    omega) rfl (by
    show hung (m.b++ys) m.datas 288 m.b.length Y=hung (m.b++Mk.dobj m s) m.datas 288 m.b.length (Mk.dslot m s)
    rw[e1,e2]) (by
    show m.datas++_=m.datas++_
    rw[e2]) rfl rfl)
   clear a1 aZ bc aP x9 z9 e1 e2 a0 aA a9 aH
   generalize w9.setCell ⟨g,144,none⟩ (.slice D9 (k+1) c9)=w10 at*
   have I1:=aIj G.out s hs Z
   have l1:=aCx G.out s
   obtain⟨d1,d2,d3⟩:=aBY m s
   have r0:w10.cell? ⟨w.heap.size,0,none⟩=some (.string A0):=(show Blk w10 w.heap.size _ _ from(aN.out.kept.block w.heap.size R1.out.lt (fun hf=>absurd (At.lt ba.out _ hf).2 (Nat.lt_irrefl _))).trans R1.out).cell (i:=0) rfl
   obtain⟨f1,f2,f3,f4,f5,f6,f7,f8,f9⟩:=aD1 I1 d hn hf1
   have HF:=aJg d w10 bw.out I1 hn hf1 (by omega)
   have HG:Mk.dataNew m d s=Mk.put2 (Mk.fieldOf (Mk.put1 m s) d).2 m.b.length (Mk.fieldOf (Mk.put1 m s) d).1:=rfl
   rw[bG.out]at HF
   generalize (Mk.fieldOf (Mk.put1 m s) d).1=k1 at*
   generalize (Mk.fieldOf (Mk.put1 m s) d).2=l at*
   have bI:=yH HF
   have bM:=yH HG
   have bE:=yH (show l.datas.length=k+1 by rw[f5];show(m.datas++_).length=_;rw[yA,ab];rfl)
   clear HF HG f5 f6 f7 f8 f9
   go_upto_region 15 with(first
    |(go_at_call 111;(refine bI.out.mono ?_);rintro e w11 ⟨rfl,o,ar,ao,J,af⟩;have L:=yH ar;have aW:=yH (aN.out.trans ao);have aI:=yH J;have ax:=yH af;clear ar ao J af)
    |fail)
   have aY:=At.cb L.out
   go_upto_region 18 with(first
    |(go_at_call 112;(refine(aP3 (some ⟨o.bb,0,none⟩) l.b l.b.length o.cb (k1+32) _ w11 (by omega) rfl (by omega) L.out.st.own.bytes (by omega)).mono ?_);rintro e w12 ⟨rfl,rfl⟩)
    |(go_at_call 72;(refine(aAW (m.b.length+32) _ (by omega) _ _ L.out (by omega) (by omega)).mono ?_);rintro e w12 ⟨rfl,au,an⟩;have a4:=yH au;have bl:=yH (aW.out.trans an);have ae:(put8 l.b (m.b.length+32) (u8 l.b (k1+32))).length=l.b.length:=aAp _ _ _ (by omega);clear au an)
    |(go_at_call 72;(refine(aAW (k1+32) _ (by omega) _ _ a4.out (by rw[ae];omega) (by rw[ae];omega)).mono ?_);rintro e w13 ⟨rfl,al,ag⟩;have r:=yH al;have aU:=yH (bl.out.trans ag);clear al ag)
    |fail)
   have aE:o.nd=k+1:=by
    rw[←aAy r.out.dr,←bE.out,←show o.dl.map Prod.fst=l.datas from r.out.dm,List.length_map]
   have bT:w13.cell? ⟨g,144,none⟩=some (.slice o.D (k+1) o.cd):=aE▸At.cd r.out
   have HE:=yH (show Mk.dataOf m d s=(k,Mk.dataNew m d s)by unfold Mk.dataOf;rw[H.out,ab])
   clear aY
   go_wp2
   go_ret
   rw[HE.out,bM.out]
   refine⟨rfl,o,r.out,(Path.of_below ah.out).trans aU.out,fun x hx=>?_,ax.out⟩
   rw[aI.out]at hx
   rcases List.mem_append.1 hx with hx|hx
   ·exact .inl hx
   ·rw[List.mem_singleton.1 hx]
    exact .inr ⟨rfl,rfl⟩
end Nee
namespace Nf
open Bytes8 Blk8 Own8 OwnA OwnE Rows2 Ob Od Ga Gn Ma Kf Mb Mc Md Mf Mg Fb Dc Yc Yd Yk Na Nb Nc Nd
theorem aBq {E S:TypeId}{size d:Nat}{z:Value}(l:Elt E S size d z)(w:World)(D:TypeId)(base:Nat)(A:Option Addr)(n c:Nat)(xs:List Value)(r:OwnE E size w base A n c xs)(y:Option Addr)(m C:Nat)(a:List Value)(s:a.length=m*size)
 (b: ∀j u,a[j]? =some u→ ∃ad,y=some ad∧w.cell? (ad.add j)=some u)(G: ∀u∈a,u.oneCell'=true)(q:n+m≤4611686018427387904)(f:(n+m)*d≤140737488355328)(v:n+m≤maxLen):
 ∃A' c' w',(Builtin.append_ #[S,S] D #[.slice A n c,.slice y m C]).run Tryz.prog w= .ok (.slice A' (n+m) c') w'∧OwnE E size w' base A' (n+m) c' (xs++a)∧w.grownBy w' (ownB A)∧(ownB A'=ownB A∨ownB A'=some w.heap.size):=by
 cases y with
 |some ad=>exact aAA l w D base A n c xs r ad m C a s (fun j u hj=>by obtain⟨L,e,h⟩:=b j u hj;injection e with e;subst e;exact h) G q f v
 |none=>
  have p:m=0:=by
   rcases Nat.eq_zero_or_pos m with h|h
   ·exact h
   ·have J:=l.pos
    have:0<a.length:=by rw[s];exact Nat.mul_pos h J
    obtain⟨ad,e,_⟩:=b 0 a[0] (yG this)
    cases e
  subst p
  have B:a=[]:=List.eq_nil_of_length_eq_zero (by simpa using s)
  subst B
  obtain⟨i,F,o⟩:=Option.map_eq_some_iff.1 l.info
  simp only[Prod.mk.injEq]at o
  obtain⟨R,hs,M⟩:=o
  have x:w.grownBy w (ownB A):=⟨rfl,rfl,rfl,yR _,fun _ _ _=>rfl⟩
  refine⟨A,c,w,?_,by simpa using r,x,.inl rfl⟩
  rcases r.2.2 with⟨k,N⟩|⟨g,H,I,k,_,_,t,_⟩
  ·injection k with e1 e2 e3
   subst e1;subst e2;subst e3
   simp[Builtin.append_,run_underlying l.under,sizeOf,typeInfo,F,Builtin.lenOf,Builtin.firstCells]
  ·injection k with e1 e2 e3
   subst e1;subst e3
   simp[Builtin.append_,run_underlying l.under,sizeOf,typeInfo,F,Builtin.lenOf,Builtin.firstCells,t,storeCells]
theorem aAS {E S:TypeId}{size d:Nat}{z:Value}(J:Elt E S size d z){w:World}{i:Array Oper}{rest:List Oper}{o:Oper}{a:Act}{Q:Exit→Act→World→Prop}(l:o.guard=none)(s x:Operand)
 (p:o.op= .call {callee:= .builtin .append,args:= #[s,x],argTypes:= #[S,S]})
 (base:Nat)(A:Option Addr)(n c:Nat)(xs:List Value)(hs:a.eval s= .slice A n c)(D:OwnE E size w base A n c xs)(t:Option Addr)(m v:Nat)(b:List Value)(I:a.eval x= .slice t m v)(F:b.length=m*size)
 (f: ∀j u,b[j]? =some u→ ∃ad,t=some ad∧w.cell? (ad.add j)=some u)(C: ∀u∈b,u.oneCell'=true)(q:n+m≤4611686018427387904)(e:(n+m)*d≤140737488355328)(r:n+m≤maxLen)
 (h: ∀g k w',OwnE E size w' base g (n+m) k (xs++b)→w.grownBy w' (ownB A)→(ownB g=ownB A∨ownB g=some w.heap.size)→wpList Tryz.prog i Q rest (a.put o.dst (.slice g (n+m) k)) w'):wpList Tryz.prog i Q (o::rest) a w:=
 wpList_plain l fun _ hK=>by
  obtain⟨g,k,w',G,y,H,B⟩:=aBq J w o.type base A n c xs D t m v b F f C q e r
  unfold Oper.wp execOp
  simp only[p,resolve,invoke,builtin,Sem.run_bind,Sem.run_pure,Result.andThen_ok,List.map_toArray,List.map_cons,List.map_nil,hs,I,G]
  exact hK _ _ (h g k w' y H B)
theorem aFn {E:TypeId}{size:Nat}{w:World}{base n c:Nat}{A:Option Addr}{xs:List Value}(h:OwnE E size w base A n c xs):xs.length=n*size∧ ∀j u,xs[j]? =some u→ ∃ad,A=some ad∧w.cell? (ad.add j)=some u:=
 ⟨h.len,fun j u hj=>by
   obtain⟨b,e,_,_,a⟩:=h.cell (List.getElem?_eq_some_iff.1 hj).1
   exact⟨_,e,by rw[aAV,Nat.zero_add,a,hj]⟩⟩
theorem aD6 {E S:TypeId}{size d:Nat}{z:Value}(L:Elt E S size d z){w:World}{i:Array Oper}{o:Oper}{a:Act}{K:Act→World→Prop}{Q:Exit→Act→World→Prop}{F:Prop}(l:o.guard=none)(s x:Operand)
 (n:o.op= .call {callee:= .builtin .append,args:= #[s,x],argTypes:= #[S,S]})
 (base:Nat)(A:Option Addr)(c:Nat)(hs:a.eval s= .slice A 0 c)(D:OwnE E size w base A 0 c [])(p:Option Addr)(m r:Nat)(b:List Value)(J:a.eval x= .slice p m r)(G:b.length=m*size)
 (f: ∀j u,b[j]? =some u→ ∃ad,p=some ad∧w.cell? (ad.add j)=some u)(y: ∀u∈b,u.oneCell'=true)(B:m≤4611686018427387904)(e:m*d≤140737488355328)(I:m≤maxLen)
 (h: ∀g k w',OwnE E size w' base g m k b→w.grownBy w' (ownB A)→(ownB g=ownB A∨ownB g=some w.heap.size)→K (a.put o.dst (.slice g m k)) w'):
 if Region.wanted o (yielded i a.tmps)=true then Oper.wp Tryz.prog o a w K Q else F:=by
 have C:Region.wanted o (yielded i a.tmps)=true:=by simp[Region.wanted,l]
 rw[if_pos C]
 obtain⟨g,k,w',t,q,H,v⟩:=aBq L w o.type base A 0 c [] D p m r b G f y (by omega) (by simpa using e) (by omega)
 rw[Nat.zero_add]at t q
 unfold Oper.wp execOp
 simp only[n,resolve,invoke,builtin,Sem.run_bind,Sem.run_pure,Result.andThen_ok,List.map_toArray,List.map_cons,List.map_nil,hs,J,t]
 exact h g k w' q H v
theorem wpList_append_new {E S:TypeId}{size d:Nat}{z:Value}(C:Elt E S size d z){w:World}{g:Array Oper}{rest:List Oper}{o:Oper}{a:Act}{Q:Exit→Act→World→Prop}(i:o.guard=none)(s x:Operand)
 (l:o.op= .call {callee:= .builtin .append,args:= #[s,x],argTypes:= #[S,S]})
 (base:Nat)(A:Option Addr)(c:Nat)(hs:a.eval s= .slice A 0 c)(n:OwnE E size w base A 0 c [])(p:Option Addr)(m q:Nat)(b:List Value)(B:a.eval x= .slice p m q)(v:b.length=m*size)
 (f: ∀j u,b[j]? =some u→ ∃ad,p=some ad∧w.cell? (ad.add j)=some u)(r: ∀u∈b,u.oneCell'=true)(t:m≤4611686018427387904)(e:m*d≤140737488355328)(y:m≤maxLen)
 (h: ∀A' c' w',OwnE E size w' base A' m c' b→Below base w w'→wpList Tryz.prog g Q rest (a.put o.dst (.slice A' m c')) w'):wpList Tryz.prog g Q (o::rest) a w:=by
 refine aAS C i s x l base A 0 c [] hs n p m q b B v f r (by omega) (by simpa using e) (by omega) fun A' c' w' h2 h3 h4=>?_
 rw[Nat.zero_add]at h2⊢
 exact h A' c' w' h2 (below_grown h3 n.1 fun k hk=>(OwnE.ltB n k hk).1)
theorem aJh:Elt 59 91 1 8 (.int .u64 0):=⟨Tryz.underlying91,by kernel_rfl,rfl,by decide⟩
theorem aQl:(Tryz.prog.info? 59).map (fun i=>(i.zero,i.size,i.bytes))=some (some (.int .u64 0),1,8):=by kernel_rfl
theorem aPL (p:Nat)(z:Int)(a:z=(p:Int))(b:p≤1000000)(w:World):
 (Instr.makeSlice 91 (.int .i64 z) (.int .i64 z)).run Tryz.prog w= .ok (.slice (some ⟨w.heap.size,0,none⟩) p p) (w.alloc (.cells (Array.replicate p (Value.int .u64 0)) 59)):=by
 subst a
 have h:=run_make_row' (P:=Tryz.prog) 91 59 (.int .u64 0) 8 Tryz.underlying91 aQl rfl .i64 .i64 p (by omega) (by omega) w
 have e:madeCells #[Value.int .u64 0] p=Array.replicate p (Value.int .u64 0):=by
  apply Array.ext'
  rw[toList_madeCells_one]
  simp
 rw[e]at h
 exact h
def wv (l:List Nat):List Value:=l.map fun(x:Nat)=> .int .u64 (x:Int)
theorem aEM (l:List Nat):(wv l).length=l.length:=by simp[wv]
theorem aEN (l:List Nat): ∀u∈wv l,u.oneCell'=true:=fun u hu=>by
 obtain⟨x,_,rfl⟩:=List.mem_map.1 hu
 rfl
theorem aFo {w:World}{base n c:Nat}{A:Option Addr}{l:List Nat}{Ft:Nat→Prop}(h:OwnE 59 1 w base A n c (wv l))(j: ∀k,base≤k→k<w.heap.size→ ¬Ft k):Arr w Ft (.slice A n c) l:=by
 have a:=h.len
 rw[aEM,Nat.mul_one]at a
 refine⟨A,n,c,rfl,a,fun i hi=>?_⟩
 obtain⟨b,e,f,d,g⟩:=h.cell (i:=i) (by rw[aEM];exact hi)
 refine⟨b,e,d,j b f d,g.trans ?_⟩
 simp[wv,yG hi]
theorem aDF {w:World}{A:Option Addr}{n c:Nat}{l:List Nat}{Ft:Nat→Prop}(h:Arr w Ft (.slice A n c) l):(wv l).length=n*1∧ ∀j u,(wv l)[j]? =some u→ ∃ad,A=some ad∧w.cell? (ad.add j)=some u:=by
 obtain⟨m,g,i,e,d,h⟩:=h
 injection e with e1 e2 e3
 subst e1;subst e2;subst e3
 refine⟨by rw[aEM,d,Nat.mul_one],fun j u hj=>?_⟩
 have a:j<l.length:=by
  have:=(List.getElem?_eq_some_iff.1 hj).1
  rw[aEM]at this
  exact this
 obtain⟨b,rfl,k,_,f⟩:=h j a
 refine⟨_,rfl,?_⟩
 rw[aAV,Nat.zero_add,f]
 rw[←hj]
 simp[wv,yG a]
theorem aCA (w:World)(base:Nat)(h:base≤w.heap.size):OwnE 59 1 (w.alloc (.cells #[] 59)) base (some ⟨w.heap.size,0,none⟩) 0 0 []:=
 ⟨Nat.le_trans h (by simp),World.ownsRow_lit w #[] 0 h (by decide) rfl⟩
theorem aMQ (w:World)(R:Nat):InInts .u64 (w.alloc (.cells (Array.replicate R (Value.int .u64 0)) 59)) (some ⟨w.heap.size,0,none⟩) R (fun _=>0):=fun i hi=>by
 refine⟨w.heap.size,0,rfl,by simp,?_,(by show(Lit.int .u64 0).wf=true;decide)⟩
 have b:Blk (w.alloc (.cells (List.replicate R (Value.int .u64 0)).toArray 59)) w.heap.size (List.replicate R (Value.int .u64 0)) 59:=Blk.new w _ _
 have a:=b.cell (i:=0+i) (v:= .int .u64 0) (by rw[Nat.zero_add,List.getElem?_replicate,if_pos hi])
 simpa using a
theorem aJi (R:Nat):Yc.ints (fun _=>0) R=List.replicate R 0:=by
 apply List.ext_getElem
 ·simp[Yc.ints]
 ·intro i a b;simp[Yc.ints]
theorem aAX {w w':World}{g:Nat}{p p':Pl}{v:Value}{l:List Nat}{B:Nat}(h:Arr w (p.away B g) v l)(k:Path g p w p' w'):Arr w' (p'.away B g) v l:=
 h.kept k.kept (fun _ _ h h2=>h (.inl h2)) fun b hb hf h2=>h2.elim (fun h2=>(k.foot b h2).elim (fun h=>hf (.inl h)) (fun h3=>absurd hb (by omega))) (fun h=>hf (.inr h))
theorem aOD {w:World}{Ft:Nat→Prop}{A:Option Addr}{n c:Nat}{l:List Nat}(h:Arr w Ft (.slice A n c) l):l.length=n:=by
 obtain⟨f,b,d,e,a,_⟩:=h
 injection e with e1 e2 e3
 rw[a,e2]
theorem aF9 {w:World}{Ft:Nat→Prop}{A:Option Addr}{n c:Nat}{l:List Nat}(h:Arr w Ft (.slice A n c) l)(i:Nat)(m:i<n)(x:Nat)(a:l.getD i 0=x): ∃b,A=some ⟨b,0,none⟩∧w.cell? ⟨b,i,none⟩=some (.int .u64 (x:Int)):=by
 have g:=aOD h
 obtain⟨o,f,j,e,_,h⟩:=h
 injection e with e1 e2 e3
 subst e1
 obtain⟨b,e,k,_,d⟩:=h i (by omega)
 refine⟨b,e,?_⟩
 rw[d,←a,yD,yG (by omega)]
 rfl
theorem aCB (l:List Nat)(j:Nat)(h:l.length=j+1):l.getD j 0=l.getLastD 0:=by
 rw[List.getLastD_eq_getLast?,List.getLast?_eq_getElem?,h,Nat.add_sub_cancel,yD]
attribute [local irreducible] Mk.cells wpList Code.wp
variable {B g : Nat} {p : Pl} {m : Mk}
def Linked (B g:Nat)(p:Pl)(r:Mk×List Nat×Nat)(w:World)(e:Ending)(w':World):Prop:=
 ∃v' p',e= .returned (.tuple #[v',.int .i64 ((r.2.2:Nat):Int)])∧Arr w' (p'.away B g) v' r.2.1∧At w' B g p' r.1∧Path g p w p' w'
theorem link_any (A:Option Addr)(ka ca:Nat)(arr:List Nat)(n fr item:Nat)(w:World)(h:At w B g p m)(aK:0<m.b.length)(a0:0≤m.h.N 7∧m.h.N 7≤1000000)(a6:0≤m.h.N 18∧m.h.N 18≤1000000)(ha:Arr w (p.away B g) (.slice A ka ca) arr)(hc:Chain m.b.length arr n)(hf:fr+8≤m.b.length)(hb:m.b.length≤100000)(hn:n≤100000)(bc:item≤1000000):
 Calls Tryz.prog 71 #[.pointer (some ⟨g,0,none⟩),.slice A ka ca,.int .i64 (n:Int),.int .u64 (fr:Int),.int .u64 (item:Int)] w (Linked B g p (Mk.link m arr n fr item) w):=by
 have HA:=yH h
 have HR:=yH ha
 have HC:=yH hc
 have az:arr.length=ka:=by obtain⟨A',n',c',e,hl,_⟩:=ha;injection e with e1 e2 e3;rw[hl,e2]
 have a9:ka≤25001:=by
  rcases Nat.eq_zero_or_pos ka with h0|h0
  ·omega
  ·have h1:=hc.ge (by omega)
   have h2:=aFl (arr.length-1)
   omega
 have bf:=aIl ka
 have o:=yH az
 clear h ha hc az
 unfold Linked
 go_enter Tryz.func71,Tryz.ntmps71
 go_wp2
 go_loopw [12,13,14] (fun x y i wr=> ∃k:Nat,k≤ka∧i= .int .i64 (k:Int)∧x= .int .i64 ((rooms (k-1):Nat):Int)∧y= .int .i64 ((rooms k:Nat):Int)∧wr=w) (fun _ _ i _=>ka-(intOf i).toNat)
 case atStart=>exact⟨0,Nat.zero_le _,rfl,rfl,rfl,rfl⟩
 case round=>
  obtain⟨k,a8,rfl,rfl,rfl,rfl⟩:=hrel
  by_cases ba:k<ka
  ·have aP:=aIl k
   have aL:=(aAE k).2
   have HS:=yH (aAv k)
   have ao:=yH (aId k wr)
   generalize I:rooms k=rk at*
   have aT:=yH I
   clear I
   generalize rooms (k-1)=c at*
   generalize roomN k=rn at*
   go_wp2_with(first|(go_at_call 116;(with_reducible refine ao.out.mono ?_);rintro e w' ⟨rfl,rfl⟩)|fail)
   go_roundw
   case rel=>exact⟨k+1,by omega,by go_num,by rw[Nat.add_sub_cancel,aT.out],by rw[HS.out];go_num,trivial⟩
   case measure=>simp[intOf];omega
  ·obtain rfl:k=ka:=by omega
   by_cases he:n=rooms k
   ·have ag:=yH (show Mk.link m arr n fr item=(Mk.linkNew m arr fr item,arr++ [m.b.length],1)by unfold Mk.link;rw[if_pos (by rw[o.out];exact he)])
    have HE:=yH he
    generalize rooms (k-1)=c at*
    generalize rooms k=rk at*
    subst he
    have aL:=(aAE k).2
    have aP:=(aAE k).1
    have ao:=yH (aId k wr)
    have a5:=aCy k
    have a1:objB 6 (arrB 0 (Yc.ints (fun _=>0) (roomN k)))=aobj k:=by rw[aJi];rfl
    have aG:16+(8+8*roomN k)+padN (8+8*roomN k)=24+8*roomN k:=by unfold padN;omega
    have au:=yH (aFb 0 (some ⟨wr.heap.size,0,none⟩) (roomN k) (roomN k) (fun _=>0) _ (aMQ wr (roomN k)) (by omega) (by decide))
    rw[a1,aG]at au
    have aU:=aPL (roomN k) (roomN k:Int) rfl (by omega)
    generalize roomN k=R at*
    unfold Owned at au
    go_upto_region 9 with(first
     |(go_at_call 116;(with_reducible refine ao.out.mono ?_);rintro e w' ⟨rfl,rfl⟩)
     |(go_at_call 117;(refine au.out.mono ?_);rintro e w4 ⟨A4,c4,rfl,aF,aI⟩;have aB:=yH aF;have aC:=yH (show Below wr.heap.size wr w4 from((yB wr.heap.size wr).alloc (yR _) _).trans (aI.mono (by simp)));have aM:=yH (At.below HA.out aC.out);clear aF aI)
     |(go_at_call 68;(refine(aCc A4 _ c4 _ w4 aM.out aB.out.bytes aB.out.2.1 aK (by omega) a0).mono ?_);rintro e w5 ⟨rfl,b5,G,ay,aE⟩;have aj:=yH ay;have a2:=yH ((Path.of_below (g:=g) (p:=p) aC.out).trans aE);clear ay aE)
     |fail)
    have al:=aAM m (aobj k)
    rw[a5]at al
    have aD:w5.cell? ⟨g,137,none⟩=some (.int .u64 (m.h.N 18)):=At.cN aj.out 18 137 (by decide) rfl
    have aw:=At.fz aj.out 137
    have aX:IntKind.u64.wrap (m.h.N 18+1)=m.h.N 18+1:=by rw[IntKind.wrap_u64];omega
    go_region
    have aH:=yH (At.drew (At.setN aj.out 18 137 (by decide) rfl (m.h.N 18+1)))
    have ab:=yH ((a2.out.set 137 (.int .u64 (m.h.N 18+1))).drew)
    generalize (w5.setCell ⟨g,137,none⟩ (.int .u64 (m.h.N 18+1))).drew=w6 at*
    clear aD aw aX aU
    obtain⟨P,hP⟩: ∃x,x=(if arr=[]then fr else arr.getLastD 0+16):=⟨_,rfl⟩
    have bd:P+8≤m.b.length:=by
     rw[hP]
     split
     ·omega
     ·next hne=>have:=aA6 HC.out hne;omega
    have ah:=yH hP
    have aO:=yH (aAX HR.out ab.out)
    have aS:=yH ab.out.foot
    have a7:=ab.out.kept.size
    clear hP
    rcases Nat.eq_zero_or_pos k with X|X
    ·have aA:P=fr:=by rw[ah.out,if_pos (List.eq_nil_of_length_eq_zero (by rw[o.out];exact X))]
     have d0:((k:Int)==0)=true:=by simp[X]
     clear X
     go_upto_region 14 with(first
      |(go_at_call 72;(refine(aAW P _ (by omega) _ w6 aH.out (by show P+8≤(m.object (aobj k)).b.length;omega) (by show(m.object (aobj k)).b.length≤_;omega)).mono ?_);rintro e w7 ⟨rfl,Z,ac⟩;have D:=yH Z;have J:=yH (ab.out.trans ac);clear Z ac)
      |fail)
     have ap:=yH (Arr.kept (Ft':=Pl.away {p with bb:=b5,cb:=G} B g) (aAX (p':={p with bb:=b5,cb:=G}) HR.out J.out) (KeptF.of_below (F:=None') ((yB w7.heap.size w7).alloc (yR _) (.cells #[] 59))) (fun _ _ _ h=>h.elim) (fun _ _ h=>h))
     obtain⟨nl,nc⟩:=aDF ap.out
     have aQ:m.b.length≤100000:=hb
     go_upto_region 15 with(first
      |(at_builtin;(refine wpList_append_new aJh rfl (.tmp 67) (.tmp 68) rfl w7.heap.size (some ⟨w7.heap.size,0,none⟩) 0 rfl (aCA w7 w7.heap.size (yR _)) A k ca (wv arr) rfl nl nc (aEN _) (by omega) (by omega) (by unfold maxLen;omega) ?_);intro A9 c9 w9 ae aa;have L:=yH ae;have C:=yH (show Below w7.heap.size w7 w9 from((yB w7.heap.size w7).alloc (yR _) _).trans aa);clear ae aa)
      |(at_builtin;(refine aAS aJh rfl (.tmp 69) (.tmp 71) rfl w7.heap.size A9 k c9 (wv arr) rfl (OwnE.alloc L.out _) (some ⟨w9.heap.size,0,none⟩) 1 1 (wv [m.b.length]) rfl rfl (fun q u hq=>⟨_,rfl,Blk.news (Blk.new w9 _ _) q u hq⟩) (aEN _) (by omega) (by omega) (by unfold maxLen;omega) ?_);intro aW aN w10 z f E;have V:=yH z;have v:=yH ((C.out.alloc C.out.size _).trans (below_grown f (by have:=C.out.size;simp;omega) (fun q hq=>(OwnE.ltB L.out q hq).1)));clear z f E)
      |fail)
     have am:wv arr++wv [m.b.length]=wv (arr++ [m.b.length]):=by simp[wv]
     have s:=V.out
     rw[am]at s
     obtain⟨aY,rfl,_,aq,l⟩:=OwnE.cell s (i:=k) (by rw[aEM,yA,List.length_singleton,o.out];omega)
     rw[show(wv (arr++ [m.b.length]))[k]? =some (.int .u64 (m.b.length:Int))by unfold wv;rw[List.getElem?_map,List.getElem?_append_right (by rw[o.out];omega),o.out,Nat.sub_self];rfl]at l
     have Y:=yH (At.below D.out v.out)
     have ad:=yH (J.out.below v.out)
     have ax:(put8 (m.object (aobj k)).b P (m.b.length:Nat)).length=m.b.length+(24+8*R):=by rw[aAp _ _ _ (by omega),al]
     go_upto_region 16 with(first
      |(go_at_call 72;(refine(aAW (m.b.length+24) _ (by omega) _ w10 Y.out (by show _≤(put8 (m.object (aobj k)).b P (m.b.length:Nat)).length;omega) (by show(put8 (m.object (aobj k)).b P (m.b.length:Nat)).length≤_;omega)).mono ?_);rintro e w11 ⟨rfl,d,a⟩;have t:=yH d;have r:=yH (ad.out.trans a);have ar:=yH a;clear d a)
      |fail)
     have an:=yH (aAX (aFo (Ft:=Pl.away {p with bb:=b5,cb:=G} B g) s (fun q h1 h2 M=>M.elim (fun M=>absurd (At.lt D.out q M).2 (by omega)) (fun M=>by have:=(At.lt D.out g (.inl rfl));omega))) ar.out)
     clear l s
     go_wp2
     go_ret2
     rw[ag.out]
     refine⟨_,_,rfl,an.out,At.same t.out rfl ?_ rfl ?_ rfl rfl rfl,r.out⟩
     ·show setN (m.object (aobj k)).h 18 _=setN (m.object (aobj arr.length)).h 18 _
      rw[o.out]
     ·show put8 (put8 (m.b++aobj k) P _) _ _=put8 (put8 (m.b++aobj arr.length) _ _) _ _
      rw[o.out,ah.out]
    ·obtain⟨j,rfl⟩: ∃j,k=j+1:=⟨k-1,by omega⟩
     have aA:P=arr.getLastD 0+16:=by rw[ah.out,if_neg (fun e=>by have:=o.out;rw[e]at this;cases this)]
     have d0:(((j+1:Nat):Int)==0)=false:=by simp;omega
     obtain⟨b,rfl,av⟩:=aF9 aO.out j (by omega) (arr.getLastD 0) (aCB arr j o.out)
     have ak:arr.getLastD 0≤200000:=by omega
     obtain⟨la,H⟩: ∃x,x=arr.getLastD 0:=⟨_,rfl⟩
     rw[←H]at av ak aA
     clear H
     go_upto_region 14 with(first
      |(go_at_call 72;(refine(aAW P _ (by omega) _ w6 aH.out (by show P+8≤(m.object (aobj (j+1))).b.length;omega) (by show(m.object (aobj (j+1))).b.length≤_;omega)).mono ?_);rintro e w7 ⟨rfl,Z,ac⟩;have D:=yH Z;have J:=yH (ab.out.trans ac);clear Z ac)
      |fail)
     have ap:=yH (Arr.kept (Ft':=Pl.away {p with bb:=b5,cb:=G} B g) (aAX (p':={p with bb:=b5,cb:=G}) HR.out J.out) (KeptF.of_below (F:=None') ((yB w7.heap.size w7).alloc (yR _) (.cells #[] 59))) (fun _ _ _ h=>h.elim) (fun _ _ h=>h))
     obtain⟨nl,nc⟩:=aDF ap.out
     have aQ:m.b.length≤100000:=hb
     go_upto_region 15 with(first
      |(at_builtin;(refine wpList_append_new aJh rfl (.tmp 67) (.tmp 68) rfl w7.heap.size (some ⟨w7.heap.size,0,none⟩) 0 rfl (aCA w7 w7.heap.size (yR _)) (some ⟨b,0,none⟩) (j+1) ca (wv arr) rfl nl nc (aEN _) (by omega) (by omega) (by unfold maxLen;omega) ?_);intro A9 c9 w9 ae aa;have L:=yH ae;have C:=yH (show Below w7.heap.size w7 w9 from((yB w7.heap.size w7).alloc (yR _) _).trans aa);clear ae aa)
      |(at_builtin;(refine aAS aJh rfl (.tmp 69) (.tmp 71) rfl w7.heap.size A9 (j+1) c9 (wv arr) rfl (OwnE.alloc L.out _) (some ⟨w9.heap.size,0,none⟩) 1 1 (wv [m.b.length]) rfl rfl (fun q u hq=>⟨_,rfl,Blk.news (Blk.new w9 _ _) q u hq⟩) (aEN _) (by omega) (by omega) (by unfold maxLen;omega) ?_);intro aW aN w10 z f E;have V:=yH z;have v:=yH ((C.out.alloc C.out.size _).trans (below_grown f (by have:=C.out.size;simp;omega) (fun q hq=>(OwnE.ltB L.out q hq).1)));clear z f E)
      |fail)
     have am:wv arr++wv [m.b.length]=wv (arr++ [m.b.length]):=by simp[wv]
     have s:=V.out
     rw[am]at s
     obtain⟨aY,rfl,_,aq,l⟩:=OwnE.cell s (i:=(j+1)) (by rw[aEM,yA,List.length_singleton,o.out];omega)
     rw[show(wv (arr++ [m.b.length]))[(j+1)]? =some (.int .u64 (m.b.length:Int))by unfold wv;rw[List.getElem?_map,List.getElem?_append_right (by rw[o.out];omega),o.out,Nat.sub_self];rfl]at l
     have Y:=yH (At.below D.out v.out)
     have ad:=yH (J.out.below v.out)
     have ax:(put8 (m.object (aobj (j+1))).b P (m.b.length:Nat)).length=m.b.length+(24+8*R):=by rw[aAp _ _ _ (by omega),al]
     go_upto_region 16 with(first
      |(go_at_call 72;(refine(aAW (m.b.length+24) _ (by omega) _ w10 Y.out (by show _≤(put8 (m.object (aobj (j+1))).b P (m.b.length:Nat)).length;omega) (by show(put8 (m.object (aobj (j+1))).b P (m.b.length:Nat)).length≤_;omega)).mono ?_);rintro e w11 ⟨rfl,d,a⟩;have t:=yH d;have r:=yH (ad.out.trans a);have ar:=yH a;clear d a)
      |fail)
     have an:=yH (aAX (aFo (Ft:=Pl.away {p with bb:=b5,cb:=G} B g) s (fun q h1 h2 M=>M.elim (fun M=>absurd (At.lt D.out q M).2 (by omega)) (fun M=>by have:=(At.lt D.out g (.inl rfl));omega))) ar.out)
     clear l s
     go_wp2
     go_ret2
     rw[ag.out]
     refine⟨_,_,rfl,an.out,At.same t.out rfl ?_ rfl ?_ rfl rfl rfl,r.out⟩
     ·show setN (m.object (aobj (j+1))).h 18 _=setN (m.object (aobj arr.length)).h 18 _
      rw[o.out]
     ·show put8 (put8 (m.b++aobj (j+1)) P _) _ _=put8 (put8 (m.b++aobj arr.length) _ _) _ _
      rw[o.out,ah.out]
   ·have ag:=yH (show Mk.link m arr n fr item=(Mk.linkOld m arr n item,arr,n-rooms (arr.length-1)+1)by unfold Mk.link;rw[if_neg (by rw[o.out];exact he)])
    have a4:=aD2 HC.out (by rw[o.out];exact he)
    have af:=aA6 HC.out (aFm HC.out (by rw[o.out];exact he))
    have aJ:=(aAE (arr.length-1)).2
    rw[o.out]at a4 af aJ ag
    have d0:((n:Int)==((rooms k:Nat):Int))=false:=by simp;omega
    generalize ai:rooms (k-1)=c at*
    generalize I:rooms k=rk at*
    generalize roomN (k-1)=R at*
    have aR:=yH I
    have a3:=yH ai
    clear I ai
    have X:0<k:=by
     rcases Nat.eq_zero_or_pos k with h|h
     ·have h1:=List.eq_nil_of_length_eq_zero (show arr.length=0 by rw[o.out];exact h)
      have h2:=HC.out.le
      rw[h1]at h2
      exfalso
      have M:n=0:=Nat.le_zero.1 h2
      have h4:=aR.out
      rw[h]at h4
      exact he (M.trans (show 0=rk from h4))
     ·exact h
    obtain⟨j,rfl⟩: ∃j,k=j+1:=⟨k-1,by omega⟩
    obtain⟨b,rfl,av⟩:=aF9 HR.out j (by omega) (arr.getLastD 0) (aCB arr j o.out)
    have ak:arr.getLastD 0≤200000:=by omega
    obtain⟨la,H⟩: ∃x,x=arr.getLastD 0:=⟨_,rfl⟩
    have aV:=yH H
    rw[←H]at av af ak
    clear H he
    obtain⟨q,hq⟩: ∃q:Nat,n=c+q:=⟨n-c,by omega⟩
    have aZ:=yH (show Mk.linkOld m arr n item={m with b:=put8 m.b (la+24+8*q) item}by unfold Mk.linkOld;rw[←aV.out,o.out,a3.out,hq,Nat.add_sub_cancel_left])
    have HQ:=yH hq
    subst hq
    go_upto_region 16 with(first
     |(go_at_call 72;(refine(aAW (la+24+8*q) _ (by omega) _ wr HA.out (by omega) (by omega)).mono ?_);rintro e w11 ⟨rfl,d,a⟩;have t:=yH d;have r:=yH a;clear d a)
     |fail)
    go_wp2
    go_ret2
    rw[ag.out]
    refine⟨_,p,?_,aAX HR.out r.out,?_,r.out⟩
    ·have e:((c+q-c+1:Nat):Int)=(c:Int)+(q:Int)-(c:Int)+1:=by omega
     show Ending.returned (Value.tuple #[.slice (some ⟨b,0,none⟩) (j+1) ca,.int .i64 ((c:Int)+(q:Int)-(c:Int)+1)])=Ending.returned (Value.tuple #[.slice (some ⟨b,0,none⟩) (j+1) ca,.int .i64 ((c+q-c+1:Nat):Int)])
     rw[e]
    ·show At _ _ _ _ (Mk.linkOld m arr (c+q) item)
     rw[aZ.out]
     exact t.out
end Nf
end Go.Proofs.YteaikbodkgjkdaaGreat
