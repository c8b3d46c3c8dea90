/-
  Texts beneath the proof.
-/
import Derived.Test.YtlelnfokffflnaaGreatQl18
set_option linter.unusedVariables false
set_option linter.unusedSimpArgs false
set_option maxRecDepth 100000
set_option maxHeartbeats 4000000
open Go.ChangeShapes Go.WideShapes Go.ChangeAt Go.RowKit
namespace Go.Proofs.YtlelnfokffflnaaGreat
namespace Nee
open Bytes8 Blk8 Own8 OwnE Ob Oc Oj Ga Ma Kf Mb Mc Md Me Mf Mg Fa Fb Fc Sg Dc Na Nb Nc Nd
theorem aOC {l:List (Kn×Value)}{b:List Kn}(e:l.map Prod.fst=b){s:List Int}{k:Nat}(d:k<l.length)(h:l[k].1.text=s)(c: ∀j (hj:j<l.length),j<k→l[j].1.text≠s):idxK b s=some k:=by
 subst e
 unfold idxK
 rw[List.findIdx?_eq_some_iff_getElem]
 exact⟨by simpa using d,by simp[h],fun j hj=>by simpa using c j (by omega) hj⟩
theorem aKu {l:List (Kn×Value)}{b:List Kn}(e:l.map Prod.fst=b){s:List Int}(g: ∀j (c:j<l.length),l[j].1.text≠s):idxK b s=none:=by
 subst e
 unfold idxK
 rw[List.findIdx?_eq_none_iff]
 intro x d
 obtain⟨q,f,rfl⟩:=List.mem_map.1 d
 obtain⟨j,c,rfl⟩:=List.mem_iff_getElem.1 f
 simpa using g j c
theorem pay_len (n v:List Int):(pay n v).length=n.length+1+v.length:=by unfold pay;simp;omega
attribute [local irreducible] Mk.cells wpList Code.wp
variable {B g : Nat} {p : Pl} {m : Mk}
theorem aMP (f v:List Int)(w:World)(h:At w B g p m)(I:Inv m)(hn:AllB f)(hv:AllB v)(hf:f.length≤64∧v.length≤256)(hb:m.b.length≤80000):
 Calls Tryz.prog 77 #[.pointer (some ⟨g,0,none⟩),pv f v] w fun e w'=>e= .returned (.int .i64 ((Mk.dataOf m f (pay f v)).1:Nat))∧StpD B g p (Mk.dataOf m f (pay f v)).2 w w':=by
 have l:=yH fun w=>aBM f v (by omega) w
 have bI:=pay_len f v
 have hs:=aBr hn hv
 generalize pay f v=s at*
 obtain⟨hf1,b6⟩:=hf
 have aa:s.length≤400:=by omega
 clear bI
 have aO:=yH h
 have G:=yH I
 have bE:=I.ds
 have bW:=I.len
 clear h I
 obtain⟨A0,aK⟩: ∃x,T f=x:=⟨_,rfl⟩
 have bJ:=yH aK
 dsimp only[pv,box]at*
 rw[aK]at l⊢
 clear aK
 generalize T v=V at*
 have b1:Below w.heap.size w ((w.alloc (.cells #[.string A0,.string V] 82)).alloc (.cells #[.string A0,.string V] 82)):=((Below.refl _ _).alloc (yR _) _).alloc (by simp) _
 have R1:=yH (show Blk ((w.alloc (.cells #[.string A0,.string V] 82)).alloc (.cells #[.string A0,.string V] 82)) w.heap.size [.string A0,.string V] 82 from(Blk.new w _ _).alloc _)
 have M:=yH (At.below aO.out b1)
 have ah:=yH b1
 clear b1
 go_enter Tryz.func77,Tryz.ntmps77
 go_upto_region 2 with(first|(go_at_call 129;(with_reducible refine(l.out _).mono ?_);rintro e w1 ⟨rfl,rfl⟩)|fail)
 generalize (w.alloc (.cells #[.string A0,.string V] 82)).alloc (.cells #[.string A0,.string V] 82)=w1 at*
 have c4:=At.cd M.out
 have HL:=yH (aAy M.out.dr)
 have bO:=yH fun(q:Kn×Value) (hq:q∈p.dl)=>(G.out.dat q.1 (by rw[←M.out.dm];exact List.mem_map.2 ⟨q,hq,rfl⟩)).2.1
 obtain⟨nd,aH⟩: ∃n,p.nd=n:=⟨_,rfl⟩
 have HN:=yH aH
 rw[aH]at c4 HL
 clear aH
 have bR:nd≤80000:=by
  have h1:=G.out.dn
  rw[←M.out.dm,List.length_map,HL.out]at h1
  omega
 go_wp2
 go_loopw [6] (fun i wr=> ∃k:Nat,k≤nd∧i= .int .i64 (k:Int)∧Hid (∀j (hj:j<p.dl.length),j<k→p.dl[j].1.text≠s)∧wr=w1) (fun i _=>nd-(intOf i).toNat)
 case atStart=>exact⟨0,Nat.zero_le _,rfl,yH fun _ _ h=>absurd h (Nat.not_lt_zero _),rfl⟩
 case round=>
  obtain⟨k,b4,rfl,ad,rfl⟩:=hrel
  by_cases bz:k<nd
  ·have ay:k<p.dl.length:=by rw[HL.out];exact bz
   obtain⟨b,aP,b3,d0,d1,d2,d3,d4⟩:=aBp M.out.dr k ay
   rw[aP]at c4
   clear d1 d2 d3 d4 aP
   have ab:=yH (bO.out _ (List.getElem_mem ay))
   have H:=yH fun h:p.dl[k].1.text=s=>aOC M.out.dm ay h ad.out
   have ax:=yH fun(h:p.dl[k].1.text≠s) j (hj:j<p.dl.length) (hjk:j<k+1)=>show p.dl[j].1.text≠s from by
    rcases Nat.lt_or_ge j k with h1|h1
    ·exact ad.out j hj h1
    ·have:j=k:=by omega
     subst this
     exact h
   generalize p.dl[k]=q at*
   by_cases he:q.1.text=s
   ·have e1:((T q.1.text).toList==(T s).toList)=true:=by rw[aHj ab.out hs];simp[he]
    have HQ:=yH (H.out he)
    have HP:=yH (Path.of_below (g:=g) (p:=p) ah.out)
    clear he ax H ab l
    generalize T q.1.text=Q at*
    generalize T s=R at*
    go_wp2
    go_ret
    unfold Mk.dataOf
    rw[HQ.out]
    exact⟨rfl,p,M.out,HP.out,fun x hx=> .inl hx,rfl⟩
   ·have e1:((T q.1.text).toList==(T s).toList)=false:=by rw[aHj ab.out hs];simp[he]
    have HQ:=yH (ax.out he)
    clear he ax H ab l
    generalize T q.1.text=Q at*
    generalize T s=R at*
    go_wp2
    go_roundw
    case rel=>exact⟨k+1,by omega,by go_num,HQ,trivial⟩
    case measure=>simp[intOf];omega
  ·obtain rfl:k=nd:=by omega
   have H:=yH (aKu M.out.dm fun j hj=>ad.out j hj (by rw[←HL.out];exact hj))
   clear ad l
   obtain⟨Y,aT⟩: ∃Y,s.length=Y:=⟨_,rfl⟩
   have HS:=yH aT
   have bS:Y≤400:=by omega
   clear aT
   have HO:=yH fun(W:World) (c:Nat) (h:Bytes W (some ⟨wr.heap.size,0,none⟩) s)=>aFO m.C.keyed m.C.F _ s Y c W G.out.F h HS.out (by omega)
   go_upto_region 7 with fail
   have HB:=yH M.out.st.st
   have pk:=HB.out.cell (Mk.get_keyed _ _)
   have pF:=Mk.file_range HB.out
   obtain⟨cv,mk,E⟩:=aBL s hs
   have bk:=fun w=>(E w).1
   simp only[HS.out]at bk
   have br:=yH ((E wr.drew).2.1 wr.heap.size rfl)
   have aI:=yH (((Below.refl wr.heap.size wr).drew).trans (E wr.drew).2.2.below)
   have a0:=yH (HB.out.below aI.out HB.out.lt)
   have qk:=a0.out.cell (Mk.get_keyed _ _)
   have qF:=Mk.file_range a0.out
   have aN:=yH E
   clear E
   have bs:=Tryz.underlying37
   have bM:(Tryz.prog.info? 37).map (·.size)=some (fileV m.C).length:=by kernel_rfl
   refine wp_region_noPanic ?_
   refine wp_region_held_drew (S:=fun w':World=>w'.cell? ⟨g,51,none⟩=some (.bool m.C.keyed)∧w'.rangeAt g 0 (fileV m.C)) (by kernel_rfl) (by exact⟨pk,pF⟩) (fun hHeld=>?_)
   refine tq 0 36 rfl (fun W hSw=>by go_simp;try (with_reducible rfl)) ?_
   try simp only[Act.put,sA,sZ,sS]
   refine tq 1 37 rfl (fun W hSw=>by go_simp;try (with_reducible rfl)) ?_
   try simp only[Act.put,sA,sZ,sS]
   refine tq 2 38 rfl (fun W hSw=>by go_simp;try (with_reducible rfl)) ?_
   try simp only[Act.put,sA,sZ,sS]
   refine tq 3 39 rfl (fun W hSw=>by go_simp;try (with_reducible rfl)) ?_
   try simp only[Act.put,sA,sZ,sS]
   refine tq 4 40 rfl (fun W hSw=>by have b2:=hSw.1;go_simp;try (with_reducible rfl)) ?_
   try simp only[Act.put,sA,sZ,sS]
   refine tq 5 41 rfl (fun W hSw=>by go_simp;try (with_reducible rfl)) ?_
   try simp only[Act.put,sA,sZ,sS]
   refine tq 6 42 rfl (fun W hSw=>by go_simp;try (with_reducible rfl)) ?_
   try simp only[Act.put,sA,sZ,sS]
   refine tq 7 43 rfl (fun W hSw=>by go_simp;try (with_reducible rfl)) ?_
   try simp only[Act.put,sA,sZ,sS]
   refine tq 8 44 rfl (fun W hSw=>by go_simp;try (with_reducible rfl)) ?_
   try simp only[Act.put,sA,sZ,sS]
   refine tk (i:=9) (oi:=⟨some 45,_,_,_,_,_⟩) rfl (yieldsIf_load_mid (by rfl) _ _ rfl _ _ rfl _ _ (fun _ h=>h.2) bs rfl bM) ?_
   try simp only[Act.put,sA,sZ,sS]
   refine tq 10 46 rfl (fun W hSw=>by go_simp;try (with_reducible rfl)) ?_
   try simp only[Act.put,sA,sZ,sS]
   refine rd 11 rfl (fun K hK=>?_)
   go_simp
   skip
   try go_wp2_with fail
   refine hK.out _ _ (by exact⟨qk,qF⟩) (fun hHeld=>?_)
   clear hK K
   try simp only[Act.put,sA,sZ,sS]
   refine rd 12 rfl (fun K hK=>?_)
   go_simp
   (refine(HO.out _ _ br.out).mono ?_);rintro e w2 ⟨rfl,bl⟩;have aL:=yH (aI.out.trans (bl.mono aI.out.size));have aW:=yH (HB.out.below aL.out HB.out.lt);have rk:=aW.out.cell (Mk.get_keyed _ _);have rF:=Mk.file_range aW.out;clear bl
   try go_wp2_with fail
   refine hK.out _ _ (by exact⟨rk,rF⟩) (fun hHeld=>?_)
   clear hK K
   try simp only[Act.put,sA,sZ,sS]
   refine tq 13 7 rfl (fun W hSw=>by go_simp;try (with_reducible rfl)) ?_
   try simp only[Act.put,sA,sZ,sS]
   refine wpAnyH_done (by kernel_rfl) ?_ _
   refine NoPanic.normal ?_
   have bA:=yH (At.below M.out aL.out)
   have bC:=yH ((Path.refl g p wr).below aL.out)
   clear pk pF qk qF rk rF
   clear HO
   have bw:=aF6 m.C.keyed (idL m.C.F) s
   generalize a1:ofS m.C.keyed (idL m.C.F) s=hh at*
   have HH:=yH a1
   clear a1
   have bF:=yH ((aN.out w2).2.1 w2.heap.size rfl)
   have a9:=yH (aN.out w2).2.2.below
   have bi:=yH fun(W:World) (A:Option Addr) (c:Nat) (h:Bytes W A s)=>aGX hh 0 0 0 0 0 A s Y c W h HS.out (by omega) (aQy bw (by decide) (by decide) (by decide) (by decide) (by decide))
   obtain⟨bV,bP⟩:=bE
   have a6: ¬(m.C.ds:Int)=0:=by omega
   have b0:padN (48+Y)≤8:=by unfold padN;omega
   have bd:m.b.length+(16+(48+Y)+padN (48+Y))≤90000:=by omega
   obtain⟨Z,am,bU⟩: ∃Z:Nat,hh%(m.C.ds:Int)=(Z:Int)∧Z<m.C.ds:=⟨(hh%(m.C.ds:Int)).toNat,by have:=Int.emod_nonneg hh a6;omega,by have:=Int.emod_nonneg hh a6;have:=Int.emod_lt_of_pos hh (show(0:Int)<(m.C.ds:Int)by omega);omega⟩
   go_upto_region 10 with(first
    |(go_at_call 130;(with_reducible refine(bi.out _ _ _ bF.out).mono ?_);rintro e w4 ⟨A4,bH,rfl,bm,a7⟩;have aE:=yH bm;have bn:=yH (a9.out.trans (a7.mono a9.out.size));have bq:=yH (At.below bA.out bn.out);have bu:=yH (bC.out.below bn.out);clear bm a7)
    |(go_at_call 79;(refine(aCc A4 _ bH _ w4 bq.out aE.out.bytes aE.out.2.1 (by omega) (by omega) (by have:=G.out.n7;omega)).mono ?_);rintro e w5 ⟨rfl,b5,y,bf,aU⟩;have aC:=yH bf;have bt:=yH (bu.out.trans aU);have f5:w5.cell? ⟨g,48,none⟩=some (.int .i64 (m.C.ds:Int)):=aC.out.st.st.cell (Mk.get_ds _ _);clear bf aU)
    |fail)
   have bK:=yH am
   clear am
   obtain⟨ys,aw⟩: ∃x,x=objB 1 (nums [hh,0,0,0,0,0]++s):=⟨_,rfl⟩
   rw[←aw]at aC
   have aA:(m.object ys).b.length=m.b.length+(16+(48+Y)+padN (48+Y)):=by show(m.b++ys).length=_;rw[List.length_append,aw,aE.out.2.1]
   have bY:(m.object ys).b.length≤90000:=by rw[aA];exact bd
   have d:=yH (At.drew aC.out)
   have af:w5.drew.cell? ⟨g,144,none⟩=some (.slice p.D k p.cd):=HN.out▸At.cd (p:={p with bb:=b5,cb:=y}) d.out
   have n2:(m.object ys).h.N 2=((288:Nat):Int):=G.out.n2
   have al:w5.drew.cell? ⟨g,121,none⟩=some (.int .u64 ((288:Nat):Int)):=(At.cN d.out 2 121 (by decide) rfl).trans (congrArg (fun x=>some (Value.int .u64 x)) n2)
   have ba:=yH M.out.dm
   have ae:m.datas.length=k:=by rw[←ba.out,List.length_map,HL.out]
   have aD:=yH (aIe g b5 y (m.object ys).b.length 288 m.b.length Z k p.cd _ _ _ p.D m.datas B w5.drew d.out.st.st (Mk.get_b _ _) d.out.st.own d.out.st.ne (by omega) (ba.out▸aIf d.out.dr) ae (by have:=G.out.dn;omega) (by omega) (by rw[aA];omega) (fun q hq=>by have:=(G.out.dat q hq).1;rw[aA];omega))
   obtain⟨iS,ac⟩: ∃x,x=inSlot m.datas Z:=⟨_,rfl⟩
   have bQ:iS≤k:=by rw[ac,←ae];exact Me.aCv _ _
   rw[←ac]at aD
   have bN:=yH ac
   clear ac
   obtain⟨n19,ai⟩: ∃n:Nat,m.h.N 19=(n:Int):=⟨(m.h.N 19).toNat,by have:=G.out.n19;omega⟩
   have bo:=yH ai
   have bZ:=aN4 n19 iS
   go_region_held3 (fun W=>W.cell? ⟨g,144,none⟩=some (.slice p.D k p.cd)∧W.cell? ⟨g,121,none⟩=some (.int .u64 ((288:Nat):Int))) (first|(with_reducible exact⟨af,al⟩)|(with_reducible exact⟨aj,au⟩)|go_keep) (first
    |(go_at_call 131;(refine aD.out.mono ?_);rintro e w6 ⟨rfl,az,aJ⟩;have z:=yH (At.put8 d.out az.2.1 az aJ);have bG:=yH (bt.out.drew.trans (Path.put8 (p:={p with bb:=b5,cb:=y}) aJ));have aj:w6.cell? ⟨g,144,none⟩=some (.slice p.D k p.cd):=HN.out▸At.cd (p:={p with bb:=b5,cb:=y}) z.out;have au:w6.cell? ⟨g,121,none⟩=some (.int .u64 ((288:Nat):Int)):=(At.cN z.out 2 121 (by decide) rfl).trans (congrArg (fun x=>some (Value.int .u64 x)) n2);clear az aJ)
    |fail)
   have bc:w6.cell? ⟨g,138,none⟩=some (.int .u64 (n19:Int)):=(At.cN z.out 19 138 (by decide) rfl).trans (congrArg (fun x=>some (Value.int .u64 x)) ai)
   have a8:=At.fz z.out 138
   clear af al aj au
   go_upto_region 11 with fail
   go_region
   have aF:=yH (At.drew (At.setN z.out 19 138 (by decide) rfl ((max n19 iS:Nat):Int)))
   have bv:=yH ((bG.out.set 138 (.int .u64 ((max n19 iS:Nat):Int))).drew)
   generalize (w6.setCell ⟨g,138,none⟩ (.int .u64 ((max n19 iS:Nat):Int))).drew=w7 at*
   clear bc a8
   go_upto_region 12 with fail
   have aZ:w7.cell? ⟨g,134,none⟩=some (.int .u64 (m.h.N 15)):=At.cN aF.out 15 134 (by decide) rfl
   have bh:=At.fz aF.out 134
   have bX:IntKind.u64.wrap (m.h.N 15+1)=m.h.N 15+1:=by have:=G.out.n15;rw[IntKind.wrap_u64];omega
   go_region
   have X:=yH (At.drew (At.setN aF.out 15 134 (by decide) rfl (m.h.N 15+1)))
   have bL:=yH ((bv.out.set 134 (.int .u64 (m.h.N 15+1))).drew)
   generalize (w7.setCell ⟨g,134,none⟩ (.int .u64 (m.h.N 15+1))).drew=w8 at*
   clear aZ bh
   have a3:w8.cell? ⟨g,144,none⟩=some (.slice p.D k p.cd):=HN.out▸At.cd (p:={p with bb:=b5,cb:=y}) X.out
   go_upto_region 14 with(first
    |(at_builtin;(refine aAe aMN rfl (.tmp 107) (.tmp 112) rfl B p.D k p.cd (kf p.dl) rfl (HN.out▸OwnE.alloc X.out.dr _) ⟨w8.heap.size,0,none⟩ 1 1 (knC ⟨s,m.b.length,Z,0,[]⟩ (.slice none 0 0)) rfl rfl (Blk.news (Blk.new w8 _ 173)) (by simp[knC,Value.oneCell']) (by omega) (by omega) (by unfold maxLen;omega) ?_);intro D9 c9 w9 a4 t aY;have bg:=yH (At.pushD X.out w9 _ ⟨s,m.b.length,Z,0,[]⟩ (.slice none 0 0) D9 c9 (congrArg (· +1) HN.out.symm) a4 t aY (Arr.nil _ _));have x9:w9.cell? ⟨g,144,none⟩=some (.slice p.D k p.cd):=HN.out▸(aCz (p:={p with bb:=b5,cb:=y}) X.out t).cell (Mk.get_d _ _);have z9:w9.frozen? ⟨g,144,none⟩=false:=(aCz X.out t).frozen 144;clear a4 t)
    |fail)
   obtain⟨aQ,aV⟩:=bg.out
   have aS:=yH (bL.out.trans aV)
   have e1:ys=Mk.dobj m s:=by rw[aw,←HH.out];rfl
   have e2:Z=Mk.dslot m s:=by
    have:=bK.out
    rw[←HH.out]at this
    unfold Mk.dslot Mk.sum Cf.file
    rw[this]
    exact(Int.toNat_natCast Z).symm
   have bp:=yH (At.same (m':=Mk.put1 m s) aQ rfl (by
    show setN (setN (m.object ys).h 19 _) 15 _=setN (setN (m.object (Mk.dobj m s)).h 19 _) 15 _
    rw[e1,←e2,←bN.out,bo.out]
    congr 2
    omega) rfl (by
    show hung (m.b++ys) m.datas 288 m.b.length Z=hung (m.b++Mk.dobj m s) m.datas 288 m.b.length (Mk.dslot m s)
    rw[e1,e2]) (by
    show m.datas++_=m.datas++_
    rw[e2]) rfl rfl)
   clear aQ aV bg a3 x9 z9 e1 e2 bk aN bi aD
   generalize w9.setCell ⟨g,144,none⟩ (.slice D9 (k+1) c9)=w10 at*
   have I1:=aIj G.out s hs aa
   have l1:=aCx G.out s
   obtain⟨d1,d2,d3⟩:=aBY m s
   have r0:w10.cell? ⟨w.heap.size,0,none⟩=some (.string A0):=(show Blk w10 w.heap.size _ _ from(aS.out.kept.block w.heap.size R1.out.lt (fun hf=>absurd (At.lt aO.out _ hf).2 (Nat.lt_irrefl _))).trans R1.out).cell (i:=0) rfl
   obtain⟨f1,f2,f3,f4,f5,f6,f7,f8,f9⟩:=aD1 I1 f hn hf1
   have HF:=aJi f w10 bp.out I1 hn hf1 (by omega)
   have HG:Mk.dataNew m f s=Mk.put2 (Mk.fieldOf (Mk.put1 m s) f).2 m.b.length (Mk.fieldOf (Mk.put1 m s) f).1:=rfl
   rw[bJ.out]at HF
   generalize (Mk.fieldOf (Mk.put1 m s) f).1=k1 at*
   generalize (Mk.fieldOf (Mk.put1 m s) f).2=r at*
   have bB:=yH HF
   have bx:=yH HG
   have bD:=yH (show r.datas.length=k+1 by rw[f5];show(m.datas++_).length=_;rw[List.length_append,ae];rfl)
   clear HF HG f5 f6 f7 f8 f9
   go_upto_region 15 with(first
    |(go_at_call 132;(refine bB.out.mono ?_);rintro e w11 ⟨rfl,o,aq,ak,J,av⟩;have L:=yH aq;have bj:=yH (aS.out.trans ak);have aM:=yH J;have aB:=yH av;clear aq ak J av)
    |fail)
   have a2:=At.cb L.out
   go_upto_region 18 with(first
    |(go_at_call 133;(refine(aP3 (some ⟨o.bb,0,none⟩) r.b r.b.length o.cb (k1+32) _ w11 (by omega) rfl (by omega) L.out.st.own.bytes (by omega)).mono ?_);rintro e w12 ⟨rfl,rfl⟩)
    |(go_at_call 83;(refine(aAW (m.b.length+32) _ (by omega) _ _ L.out (by omega) (by omega)).mono ?_);rintro e w12 ⟨rfl,ao,ar⟩;have aR:=yH ao;have a5:=yH (bj.out.trans ar);have ag:(put8 r.b (m.b.length+32) (u8 r.b (k1+32))).length=r.b.length:=aAp _ _ _ (by omega);clear ao ar)
    |(go_at_call 83;(refine(aAW (k1+32) _ (by omega) _ _ aR.out (by rw[ag];omega) (by rw[ag];omega)).mono ?_);rintro e w13 ⟨rfl,ap,an⟩;have u:=yH ap;have aX:=yH (a5.out.trans an);clear ap an)
    |fail)
   have aG:o.nd=k+1:=by
    rw[←aAy u.out.dr,←bD.out,←show o.dl.map Prod.fst=r.datas from u.out.dm,List.length_map]
   have bT:w13.cell? ⟨g,144,none⟩=some (.slice o.D (k+1) o.cd):=aG▸At.cd u.out
   have HE:=yH (show Mk.dataOf m f s=(k,Mk.dataNew m f s)by unfold Mk.dataOf;rw[H.out,ae])
   clear a2
   go_wp2
   go_ret
   rw[HE.out,bx.out]
   refine⟨rfl,o,u.out,(Path.of_below ah.out).trans aX.out,fun x hx=>?_,aB.out⟩
   rw[aM.out]at hx
   rcases List.mem_append.1 hx with hx|hx
   ·exact .inl hx
   ·rw[List.mem_singleton.1 hx]
    exact .inr ⟨rfl,rfl⟩
end Nee
namespace Nf
open Bytes8 Blk8 Own8 OwnA OwnE Rows2 Ob Od Ga Gn Ma Kf Mb Mc Md Mf Mg Fb Dc Yc Yd Yk Na Nb Nc Nd
theorem aBq {E S:TypeId}{size d:Nat}{z:Value}(o:Elt E S size d z)(w:World)(H:TypeId)(base:Nat)(A:Option Addr)(n c:Nat)(xs:List Value)(r:OwnE E size w base A n c xs)(q:Option Addr)(m G:Nat)(b:List Value)(B:b.length=m*size)
 (f: ∀j u,b[j]? =some u→ ∃ad,q=some ad∧w.cell? (ad.add j)=some u)(J: ∀u∈b,u.oneCell'=true)(D:n+m≤4611686018427387904)(k:(n+m)*d≤140737488355328)(x:n+m≤maxLen):
 ∃A' c' w',(Builtin.append_ #[S,S] H #[.slice A n c,.slice q m G]).run Tryz.prog w= .ok (.slice A' (n+m) c') w'∧OwnE E size w' base A' (n+m) c' (xs++b)∧w.grownBy w' (ownB A)∧(ownB A'=ownB A∨ownB A'=some w.heap.size):=by
 cases q with
 |some ad=>exact aAA o w H base A n c xs r ad m G b B (fun j u hj=>by obtain⟨N,e,h⟩:=f j u hj;injection e with e;subst e;exact h) J D k x
 |none=>
  have C:m=0:=by
   rcases Nat.eq_zero_or_pos m with h|h
   ·exact h
   ·have M:=o.pos
    have:0<b.length:=by rw[B];exact Nat.mul_pos h M
    obtain⟨ad,e,_⟩:=f 0 b[0] (List.getElem?_eq_getElem this)
    cases e
  subst C
  have y:b=[]:=List.eq_nil_of_length_eq_zero (by simpa using B)
  subst y
  obtain⟨i,F,p⟩:=Option.map_eq_some_iff.1 o.info
  simp only[Prod.mk.injEq]at p
  obtain⟨X,hs,R⟩:=p
  have s:w.grownBy w (ownB A):=⟨rfl,rfl,rfl,yR _,fun _ _ _=>rfl⟩
  refine⟨A,c,w,?_,by simpa using r,s,.inl rfl⟩
  rcases r.2.2 with⟨l,I⟩|⟨g,L,V,l,_,_,t,_⟩
  ·injection l with e1 e2 e3
   subst e1;subst e2;subst e3
   simp[Builtin.append_,run_underlying o.under,sizeOf,typeInfo,F,Builtin.lenOf,Builtin.firstCells]
  ·injection l with e1 e2 e3
   subst e1;subst e3
   simp[Builtin.append_,run_underlying o.under,sizeOf,typeInfo,F,Builtin.lenOf,Builtin.firstCells,t,storeCells]
theorem aAS {E S:TypeId}{size d:Nat}{z:Value}(J:Elt E S size d z){w:World}{k:Array Oper}{rest:List Oper}{o:Oper}{a:Act}{Q:Exit→Act→World→Prop}(q:o.guard=none)(s x:Operand)
 (r:o.op= .call {callee:= .builtin .append,args:= #[s,x],argTypes:= #[S,S]})
 (base:Nat)(A:Option Addr)(n c:Nat)(xs:List Value)(hs:a.eval s= .slice A n c)(M:OwnE E size w base A n c xs)(p:Option Addr)(m B:Nat)(b:List Value)(G:a.eval x= .slice p m B)(L:b.length=m*size)
 (g: ∀j u,b[j]? =some u→ ∃ad,p=some ad∧w.cell? (ad.add j)=some u)(F: ∀u∈b,u.oneCell'=true)(y:n+m≤4611686018427387904)(f:(n+m)*d≤140737488355328)(t:n+m≤maxLen)
 (h: ∀i l w',OwnE E size w' base i (n+m) l (xs++b)→w.grownBy w' (ownB A)→(ownB i=ownB A∨ownB i=some w.heap.size)→wpList Tryz.prog k Q rest (a.put o.dst (.slice i (n+m) l)) w'):wpList Tryz.prog k Q (o::rest) a w:=
 wpList_plain q fun _ hK=>by
  obtain⟨i,l,w',D,I,C,H⟩:=aBq J w o.type base A n c xs M p m B b L g F y f t
  unfold Oper.wp execOp
  simp only[r,resolve,invoke,builtin,Sem.run_bind,Sem.run_pure,Result.andThen_ok,List.map_toArray,List.map_cons,List.map_nil,hs,G,D]
  exact hK _ _ (h i l w' I C H)
theorem aFn {E:TypeId}{size:Nat}{w:World}{base n c:Nat}{A:Option Addr}{xs:List Value}(h:OwnE E size w base A n c xs):xs.length=n*size∧ ∀j u,xs[j]? =some u→ ∃ad,A=some ad∧w.cell? (ad.add j)=some u:=
 ⟨h.len,fun j u hj=>by
   obtain⟨b,e,_,_,d⟩:=h.cell (List.getElem?_eq_some_iff.1 hj).1
   exact⟨_,e,by rw[aAV,Nat.zero_add,d,hj]⟩⟩
theorem aD6 {E S:TypeId}{size d:Nat}{z:Value}(I:Elt E S size d z){w:World}{k:Array Oper}{o:Oper}{a:Act}{K:Act→World→Prop}{Q:Exit→Act→World→Prop}{F:Prop}(p:o.guard=none)(s x:Operand)
 (q:o.op= .call {callee:= .builtin .append,args:= #[s,x],argTypes:= #[S,S]})
 (base:Nat)(A:Option Addr)(c:Nat)(hs:a.eval s= .slice A 0 c)(N:OwnE E size w base A 0 c [])(n:Option Addr)(m y:Nat)(b:List Value)(G:a.eval x= .slice n m y)(L:b.length=m*size)
 (g: ∀j u,b[j]? =some u→ ∃ad,n=some ad∧w.cell? (ad.add j)=some u)(D: ∀u∈b,u.oneCell'=true)(M:m≤4611686018427387904)(f:m*d≤140737488355328)(J:m≤maxLen)
 (h: ∀i l w',OwnE E size w' base i m l b→w.grownBy w' (ownB A)→(ownB i=ownB A∨ownB i=some w.heap.size)→K (a.put o.dst (.slice i m l)) w'):
 if Region.wanted o (yielded k a.tmps)=true then Oper.wp Tryz.prog o a w K Q else F:=by
 have B:Region.wanted o (yielded k a.tmps)=true:=by simp[Region.wanted,p]
 rw[if_pos B]
 obtain⟨i,l,w',r,t,C,H⟩:=aBq I w o.type base A 0 c [] N n m y b L g D (by omega) (by simpa using f) (by omega)
 rw[Nat.zero_add]at r t
 unfold Oper.wp execOp
 simp only[q,resolve,invoke,builtin,Sem.run_bind,Sem.run_pure,Result.andThen_ok,List.map_toArray,List.map_cons,List.map_nil,hs,G,r]
 exact h i l w' t C H
theorem wpList_append_new {E S:TypeId}{size d:Nat}{z:Value}(B:Elt E S size d z){w:World}{i:Array Oper}{rest:List Oper}{o:Oper}{a:Act}{Q:Exit→Act→World→Prop}(n:o.guard=none)(s x:Operand)
 (p:o.op= .call {callee:= .builtin .append,args:= #[s,x],argTypes:= #[S,S]})
 (base:Nat)(A:Option Addr)(c:Nat)(hs:a.eval s= .slice A 0 c)(q:OwnE E size w base A 0 c [])(l:Option Addr)(m r:Nat)(b:List Value)(y:a.eval x= .slice l m r)(D:b.length=m*size)
 (g: ∀j u,b[j]? =some u→ ∃ad,l=some ad∧w.cell? (ad.add j)=some u)(t: ∀u∈b,u.oneCell'=true)(F:m≤4611686018427387904)(f:m*d≤140737488355328)(C:m≤maxLen)
 (h: ∀A' c' w',OwnE E size w' base A' m c' b→Below base w w'→wpList Tryz.prog i Q rest (a.put o.dst (.slice A' m c')) w'):wpList Tryz.prog i Q (o::rest) a w:=by
 refine aAS B n s x p base A 0 c [] hs q l m r b y D g t (by omega) (by simpa using f) (by omega) fun A' c' w' h2 h3 h4=>?_
 rw[Nat.zero_add]at h2⊢
 exact h A' c' w' h2 (below_grown h3 q.1 fun k hk=>(OwnE.ltB q k hk).1)
theorem aJj:Elt 27 30 1 8 (.int .u64 0):=⟨Tryz.underlying30,by kernel_rfl,rfl,by decide⟩
theorem aQl:(Tryz.prog.info? 27).map (fun i=>(i.zero,i.size,i.bytes))=some (some (.int .u64 0),1,8):=by kernel_rfl
theorem aPL (p:Nat)(z:Int)(b:z=(p:Int))(c:p≤1000000)(w:World):
 (Instr.makeSlice 30 (.int .i64 z) (.int .i64 z)).run Tryz.prog w= .ok (.slice (some ⟨w.heap.size,0,none⟩) p p) (w.alloc (.cells (Array.replicate p (Value.int .u64 0)) 27)):=by
 subst b
 have h:=run_make_row' (P:=Tryz.prog) 30 27 (.int .u64 0) 8 Tryz.underlying30 aQl rfl .i64 .i64 p (by omega) (by omega) w
 have e:madeCells #[Value.int .u64 0] p=Array.replicate p (Value.int .u64 0):=by
  apply Array.ext'
  rw[toList_madeCells_one]
  simp
 rw[e]at h
 exact h
def wv (l:List Nat):List Value:=l.map fun(x:Nat)=> .int .u64 (x:Int)
theorem aEM (l:List Nat):(wv l).length=l.length:=by simp[wv]
theorem aEN (l:List Nat): ∀u∈wv l,u.oneCell'=true:=fun u hu=>by
 obtain⟨x,_,rfl⟩:=List.mem_map.1 hu
 rfl
theorem aFo {w:World}{base n c:Nat}{A:Option Addr}{l:List Nat}{Ft:Nat→Prop}(h:OwnE 27 1 w base A n c (wv l))(g: ∀k,base≤k→k<w.heap.size→ ¬Ft k):Arr w Ft (.slice A n c) l:=by
 have d:=h.len
 rw[aEM,Nat.mul_one]at d
 refine⟨A,n,c,rfl,d,fun i hi=>?_⟩
 obtain⟨b,e,j,f,m⟩:=h.cell (i:=i) (by rw[aEM];exact hi)
 refine⟨b,e,f,g b j f,m.trans ?_⟩
 simp[wv,List.getElem?_eq_getElem hi]
theorem aDF {w:World}{A:Option Addr}{n c:Nat}{l:List Nat}{Ft:Nat→Prop}(h:Arr w Ft (.slice A n c) l):(wv l).length=n*1∧ ∀j u,(wv l)[j]? =some u→ ∃ad,A=some ad∧w.cell? (ad.add j)=some u:=by
 obtain⟨m,i,k,e,g,h⟩:=h
 injection e with e1 e2 e3
 subst e1;subst e2;subst e3
 refine⟨by rw[aEM,g,Nat.mul_one],fun j u hj=>?_⟩
 have d:j<l.length:=by
  have:=(List.getElem?_eq_some_iff.1 hj).1
  rw[aEM]at this
  exact this
 obtain⟨b,rfl,o,_,f⟩:=h j d
 refine⟨_,rfl,?_⟩
 rw[aAV,Nat.zero_add,f]
 rw[←hj]
 simp[wv,List.getElem?_eq_getElem d]
theorem aCA (w:World)(base:Nat)(h:base≤w.heap.size):OwnE 27 1 (w.alloc (.cells #[] 27)) base (some ⟨w.heap.size,0,none⟩) 0 0 []:=
 ⟨Nat.le_trans h (by simp),World.ownsRow_lit w #[] 0 h (by decide) rfl⟩
theorem aMQ (w:World)(R:Nat):InInts .u64 (w.alloc (.cells (Array.replicate R (Value.int .u64 0)) 27)) (some ⟨w.heap.size,0,none⟩) R (fun _=>0):=fun i hi=>by
 refine⟨w.heap.size,0,rfl,by simp,?_,(by show(Lit.int .u64 0).wf=true;decide)⟩
 have b:Blk (w.alloc (.cells (List.replicate R (Value.int .u64 0)).toArray 27)) w.heap.size (List.replicate R (Value.int .u64 0)) 27:=Blk.new w _ _
 have c:=b.cell (i:=0+i) (v:= .int .u64 0) (by rw[Nat.zero_add,List.getElem?_replicate,if_pos hi])
 simpa using c
theorem aJk (R:Nat):Yc.ints (fun _=>0) R=List.replicate R 0:=by
 apply List.ext_getElem
 ·simp[Yc.ints]
 ·intro i b c;simp[Yc.ints]
theorem aAX {w w':World}{g:Nat}{p p':Pl}{v:Value}{l:List Nat}{B:Nat}(h:Arr w (p.away B g) v l)(k:Path g p w p' w'):Arr w' (p'.away B g) v l:=
 h.kept k.kept (fun _ _ h h2=>h (.inl h2)) fun b hb hf h2=>h2.elim (fun h2=>(k.foot b h2).elim (fun h=>hf (.inl h)) (fun h3=>absurd hb (by omega))) (fun h=>hf (.inr h))
theorem aOD {w:World}{Ft:Nat→Prop}{A:Option Addr}{n c:Nat}{l:List Nat}(h:Arr w Ft (.slice A n c) l):l.length=n:=by
 obtain⟨g,d,f,e,b,_⟩:=h
 injection e with e1 e2 e3
 rw[b,e2]
theorem aGa {w:World}{Ft:Nat→Prop}{A:Option Addr}{n c:Nat}{l:List Nat}(h:Arr w Ft (.slice A n c) l)(i:Nat)(k:i<n)(x:Nat)(d:l.getD i 0=x): ∃b,A=some ⟨b,0,none⟩∧w.cell? ⟨b,i,none⟩=some (.int .u64 (x:Int)):=by
 have m:=aOD h
 obtain⟨o,g,j,e,_,h⟩:=h
 injection e with e1 e2 e3
 subst e1
 obtain⟨b,e,p,_,f⟩:=h i (by omega)
 refine⟨b,e,?_⟩
 rw[f,←d,List.getD_eq_getElem?_getD,List.getElem?_eq_getElem (by omega)]
 rfl
theorem aCB (l:List Nat)(j:Nat)(h:l.length=j+1):l.getD j 0=l.getLastD 0:=by
 rw[List.getLastD_eq_getLast?,List.getLast?_eq_getElem?,h,Nat.add_sub_cancel,List.getD_eq_getElem?_getD]
attribute [local irreducible] Mk.cells wpList Code.wp
variable {B g : Nat} {p : Pl} {m : Mk}
def Linked (B g:Nat)(p:Pl)(r:Mk×List Nat×Nat)(w:World)(e:Ending)(w':World):Prop:=
 ∃v' p',e= .returned (.tuple #[v',.int .i64 ((r.2.2:Nat):Int)])∧Arr w' (p'.away B g) v' r.2.1∧At w' B g p' r.1∧Path g p w p' w'
theorem link_any (A:Option Addr)(ka ca:Nat)(arr:List Nat)(n fr item:Nat)(w:World)(h:At w B g p m)(aV:0<m.b.length)(aY:0≤m.h.N 7∧m.h.N 7≤1000000)(ba:0≤m.h.N 18∧m.h.N 18≤1000000)(ha:Arr w (p.away B g) (.slice A ka ca) arr)(hc:Chain m.b.length arr n)(hf:fr+8≤m.b.length)(hb:m.b.length≤100000)(hn:n≤100000)(bh:item≤1000000):
 Calls Tryz.prog 82 #[.pointer (some ⟨g,0,none⟩),.slice A ka ca,.int .i64 (n:Int),.int .u64 (fr:Int),.int .u64 (item:Int)] w (Linked B g p (Mk.link m arr n fr item) w):=by
 have HA:=yH h
 have HR:=yH ha
 have HC:=yH hc
 have aA:arr.length=ka:=by obtain⟨A',n',c',e,hl,_⟩:=ha;injection e with e1 e2 e3;rw[hl,e2]
 have bi:ka≤25001:=by
  rcases Nat.eq_zero_or_pos ka with h0|h0
  ·omega
  ·have h1:=hc.ge (by omega)
   have h2:=aFl (arr.length-1)
   omega
 have bf:=aIl ka
 have r:=yH aA
 clear h ha hc aA
 unfold Linked
 go_enter Tryz.func82,Tryz.ntmps82
 go_wp2
 go_loopw [12,13,14] (fun x y i wr=> ∃k:Nat,k≤ka∧i= .int .i64 (k:Int)∧x= .int .i64 ((rooms (k-1):Nat):Int)∧y= .int .i64 ((rooms k:Nat):Int)∧wr=w) (fun _ _ i _=>ka-(intOf i).toNat)
 case atStart=>exact⟨0,Nat.zero_le _,rfl,rfl,rfl,rfl⟩
 case round=>
  obtain⟨k,bg,rfl,rfl,rfl,rfl⟩:=hrel
  by_cases bd:k<ka
  ·have a2:=aIl k
   have a3:=(aAE k).2
   have HS:=yH (aAv k)
   have au:=yH (aId k wr)
   generalize af:rooms k=rk at*
   have a0:=yH af
   clear af
   generalize rooms (k-1)=d at*
   generalize roomN k=rn at*
   go_wp2_with(first|(go_at_call 136;(with_reducible refine au.out.mono ?_);rintro e w' ⟨rfl,rfl⟩)|fail)
   go_roundw
   case rel=>exact⟨k+1,by omega,by go_num,by rw[Nat.add_sub_cancel,a0.out],by rw[HS.out];go_num,trivial⟩
   case measure=>simp[intOf];omega
  ·obtain rfl:k=ka:=by omega
   by_cases he:n=rooms k
   ·have L:=yH (show Mk.link m arr n fr item=(Mk.linkNew m arr fr item,arr++ [m.b.length],1)by unfold Mk.link;rw[if_pos (by rw[r.out];exact he)])
    have HE:=yH he
    generalize rooms (k-1)=d at*
    generalize rooms k=rk at*
    subst he
    have a3:=(aAE k).2
    have a2:=(aAE k).1
    have au:=yH (aId k wr)
    have aN:=aCy k
    have aZ:objB 6 (arrB 0 (Yc.ints (fun _=>0) (roomN k)))=aobj k:=by rw[aJk];rfl
    have aF:16+(8+8*roomN k)+padN (8+8*roomN k)=24+8*roomN k:=by unfold padN;omega
    have ay:=yH (aFb 0 (some ⟨wr.heap.size,0,none⟩) (roomN k) (roomN k) (fun _=>0) _ (aMQ wr (roomN k)) (by omega) (by decide))
    rw[aZ,aF]at ay
    have aT:=aPL (roomN k) (roomN k:Int) rfl (by omega)
    generalize roomN k=R at*
    unfold Owned at ay
    go_upto_region 9 with(first
     |(go_at_call 136;(with_reducible refine au.out.mono ?_);rintro e w' ⟨rfl,rfl⟩)
     |(go_at_call 137;(refine ay.out.mono ?_);rintro e w4 ⟨A4,c4,rfl,aL,aG⟩;have aH:=yH aL;have aI:=yH (show Below wr.heap.size wr w4 from((Below.refl wr.heap.size wr).alloc (yR _) _).trans (aG.mono (by simp)));have aO:=yH (At.below HA.out aI.out);clear aL aG)
     |(go_at_call 79;(refine(aCc A4 _ c4 _ w4 aO.out aH.out.bytes aH.out.2.1 aV (by omega) aY).mono ?_);rintro e w5 ⟨rfl,b5,I,aJ,aE⟩;have aq:=yH aJ;have aU:=yH ((Path.of_below (g:=g) (p:=p) aI.out).trans aE);clear aJ aE)
     |fail)
    have av:=aAM m (aobj k)
    rw[aN]at av
    have aK:w5.cell? ⟨g,137,none⟩=some (.int .u64 (m.h.N 18)):=At.cN aq.out 18 137 (by decide) rfl
    have aD:=At.fz aq.out 137
    have aS:IntKind.u64.wrap (m.h.N 18+1)=m.h.N 18+1:=by rw[IntKind.wrap_u64];omega
    go_region
    have aB:=yH (At.drew (At.setN aq.out 18 137 (by decide) rfl (m.h.N 18+1)))
    have ag:=yH ((aU.out.set 137 (.int .u64 (m.h.N 18+1))).drew)
    generalize (w5.setCell ⟨g,137,none⟩ (.int .u64 (m.h.N 18+1))).drew=w6 at*
    clear aK aD aS aT
    obtain⟨P,hP⟩: ∃x,x=(if arr=[]then fr else arr.getLastD 0+16):=⟨_,rfl⟩
    have bc:P+8≤m.b.length:=by
     rw[hP]
     split
     ·omega
     ·next hne=>have:=aA6 HC.out hne;omega
    have ak:=yH hP
    have a5:=yH (aAX HR.out ag.out)
    have a4:=yH ag.out.foot
    have a9:=ag.out.kept.size
    clear hP
    rcases Nat.eq_zero_or_pos k with aj|aj
    ·have az:P=fr:=by rw[ak.out,if_pos (List.eq_nil_of_length_eq_zero (by rw[r.out];exact aj))]
     have d0:((k:Int)==0)=true:=by simp[aj]
     clear aj
     go_upto_region 14 with(first
      |(go_at_call 83;(refine(aAW P _ (by omega) _ w6 aB.out (by show P+8≤(m.object (aobj k)).b.length;omega) (by show(m.object (aobj k)).b.length≤_;omega)).mono ?_);rintro e w7 ⟨rfl,ad,X⟩;have H:=yH ad;have aa:=yH (ag.out.trans X);clear ad X)
      |fail)
     have an:=yH (Arr.kept (Ft':=Pl.away {p with bb:=b5,cb:=I} B g) (aAX (p':={p with bb:=b5,cb:=I}) HR.out aa.out) (KeptF.of_below (F:=None') ((Below.refl w7.heap.size w7).alloc (yR _) (.cells #[] 27))) (fun _ _ _ h=>h.elim) (fun _ _ h=>h))
     obtain⟨nl,nc⟩:=aDF an.out
     have aP:m.b.length≤100000:=hb
     go_upto_region 15 with(first
      |(at_builtin;(refine wpList_append_new aJj rfl (.tmp 67) (.tmp 68) rfl w7.heap.size (some ⟨w7.heap.size,0,none⟩) 0 rfl (aCA w7 w7.heap.size (yR _)) A k ca (wv arr) rfl nl nc (aEN _) (by omega) (by omega) (by unfold maxLen;omega) ?_);intro A9 c9 w9 ac ah;have ab:=yH ac;have E:=yH (show Below w7.heap.size w7 w9 from((Below.refl w7.heap.size w7).alloc (yR _) _).trans ah);clear ac ah)
      |(at_builtin;(refine aAS aJj rfl (.tmp 69) (.tmp 71) rfl w7.heap.size A9 k c9 (wv arr) rfl (OwnE.alloc ab.out _) (some ⟨w9.heap.size,0,none⟩) 1 1 (wv [m.b.length]) rfl rfl (fun q u Z=>⟨_,rfl,Blk.news (Blk.new w9 _ _) q u Z⟩) (aEN _) (by omega) (by omega) (by unfold maxLen;omega) ?_);intro aQ aX w10 z l G;have M:=yH z;have D:=yH ((E.out.alloc E.out.size _).trans (below_grown l (by have:=E.out.size;simp;omega) (fun q Z=>(OwnE.ltB ab.out q Z).1)));clear z l G)
      |fail)
     have ar:wv arr++wv [m.b.length]=wv (arr++ [m.b.length]):=by simp[wv]
     have t:=M.out
     rw[ar]at t
     obtain⟨a1,rfl,_,ax,o⟩:=OwnE.cell t (i:=k) (by rw[aEM,List.length_append,List.length_singleton,r.out];omega)
     rw[show(wv (arr++ [m.b.length]))[k]? =some (.int .u64 (m.b.length:Int))by unfold wv;rw[List.getElem?_map,List.getElem?_append_right (by rw[r.out];omega),r.out,Nat.sub_self];rfl]at o
     have Y:=yH (At.below H.out D.out)
     have ai:=yH (aa.out.below D.out)
     have aC:(put8 (m.object (aobj k)).b P (m.b.length:Nat)).length=m.b.length+(24+8*R):=by rw[aAp _ _ _ (by omega),av]
     go_upto_region 16 with(first
      |(go_at_call 83;(refine(aAW (m.b.length+24) _ (by omega) _ w10 Y.out (by show _≤(put8 (m.object (aobj k)).b P (m.b.length:Nat)).length;omega) (by show(put8 (m.object (aobj k)).b P (m.b.length:Nat)).length≤_;omega)).mono ?_);rintro e w11 ⟨rfl,f,c⟩;have C:=yH f;have s:=yH (ai.out.trans c);have aw:=yH c;clear f c)
      |fail)
     have am:=yH (aAX (aFo (Ft:=Pl.away {p with bb:=b5,cb:=I} B g) t (fun q h1 h2 V=>V.elim (fun V=>absurd (At.lt H.out q V).2 (by omega)) (fun V=>by have:=(At.lt H.out g (.inl rfl));omega))) aw.out)
     clear o t
     go_wp2
     go_ret2
     rw[L.out]
     refine⟨_,_,rfl,am.out,At.same C.out rfl ?_ rfl ?_ rfl rfl rfl,s.out⟩
     ·show setN (m.object (aobj k)).h 18 _=setN (m.object (aobj arr.length)).h 18 _
      rw[r.out]
     ·show put8 (put8 (m.b++aobj k) P _) _ _=put8 (put8 (m.b++aobj arr.length) _ _) _ _
      rw[r.out,ak.out]
    ·obtain⟨j,rfl⟩: ∃j,k=j+1:=⟨k-1,by omega⟩
     have az:P=arr.getLastD 0+16:=by rw[ak.out,if_neg (fun e=>by have:=r.out;rw[e]at this;cases this)]
     have d0:(((j+1:Nat):Int)==0)=false:=by simp;omega
     obtain⟨b,rfl,ap⟩:=aGa a5.out j (by omega) (arr.getLastD 0) (aCB arr j r.out)
     have ao:arr.getLastD 0≤200000:=by omega
     obtain⟨la,J⟩: ∃x,x=arr.getLastD 0:=⟨_,rfl⟩
     rw[←J]at ap ao az
     clear J
     go_upto_region 14 with(first
      |(go_at_call 83;(refine(aAW P _ (by omega) _ w6 aB.out (by show P+8≤(m.object (aobj (j+1))).b.length;omega) (by show(m.object (aobj (j+1))).b.length≤_;omega)).mono ?_);rintro e w7 ⟨rfl,ad,X⟩;have H:=yH ad;have aa:=yH (ag.out.trans X);clear ad X)
      |fail)
     have an:=yH (Arr.kept (Ft':=Pl.away {p with bb:=b5,cb:=I} B g) (aAX (p':={p with bb:=b5,cb:=I}) HR.out aa.out) (KeptF.of_below (F:=None') ((Below.refl w7.heap.size w7).alloc (yR _) (.cells #[] 27))) (fun _ _ _ h=>h.elim) (fun _ _ h=>h))
     obtain⟨nl,nc⟩:=aDF an.out
     have aP:m.b.length≤100000:=hb
     go_upto_region 15 with(first
      |(at_builtin;(refine wpList_append_new aJj rfl (.tmp 67) (.tmp 68) rfl w7.heap.size (some ⟨w7.heap.size,0,none⟩) 0 rfl (aCA w7 w7.heap.size (yR _)) (some ⟨b,0,none⟩) (j+1) ca (wv arr) rfl nl nc (aEN _) (by omega) (by omega) (by unfold maxLen;omega) ?_);intro A9 c9 w9 ac ah;have ab:=yH ac;have E:=yH (show Below w7.heap.size w7 w9 from((Below.refl w7.heap.size w7).alloc (yR _) _).trans ah);clear ac ah)
      |(at_builtin;(refine aAS aJj rfl (.tmp 69) (.tmp 71) rfl w7.heap.size A9 (j+1) c9 (wv arr) rfl (OwnE.alloc ab.out _) (some ⟨w9.heap.size,0,none⟩) 1 1 (wv [m.b.length]) rfl rfl (fun q u Z=>⟨_,rfl,Blk.news (Blk.new w9 _ _) q u Z⟩) (aEN _) (by omega) (by omega) (by unfold maxLen;omega) ?_);intro aQ aX w10 z l G;have M:=yH z;have D:=yH ((E.out.alloc E.out.size _).trans (below_grown l (by have:=E.out.size;simp;omega) (fun q Z=>(OwnE.ltB ab.out q Z).1)));clear z l G)
      |fail)
     have ar:wv arr++wv [m.b.length]=wv (arr++ [m.b.length]):=by simp[wv]
     have t:=M.out
     rw[ar]at t
     obtain⟨a1,rfl,_,ax,o⟩:=OwnE.cell t (i:=(j+1)) (by rw[aEM,List.length_append,List.length_singleton,r.out];omega)
     rw[show(wv (arr++ [m.b.length]))[(j+1)]? =some (.int .u64 (m.b.length:Int))by unfold wv;rw[List.getElem?_map,List.getElem?_append_right (by rw[r.out];omega),r.out,Nat.sub_self];rfl]at o
     have Y:=yH (At.below H.out D.out)
     have ai:=yH (aa.out.below D.out)
     have aC:(put8 (m.object (aobj (j+1))).b P (m.b.length:Nat)).length=m.b.length+(24+8*R):=by rw[aAp _ _ _ (by omega),av]
     go_upto_region 16 with(first
      |(go_at_call 83;(refine(aAW (m.b.length+24) _ (by omega) _ w10 Y.out (by show _≤(put8 (m.object (aobj (j+1))).b P (m.b.length:Nat)).length;omega) (by show(put8 (m.object (aobj (j+1))).b P (m.b.length:Nat)).length≤_;omega)).mono ?_);rintro e w11 ⟨rfl,f,c⟩;have C:=yH f;have s:=yH (ai.out.trans c);have aw:=yH c;clear f c)
      |fail)
     have am:=yH (aAX (aFo (Ft:=Pl.away {p with bb:=b5,cb:=I} B g) t (fun q h1 h2 V=>V.elim (fun V=>absurd (At.lt H.out q V).2 (by omega)) (fun V=>by have:=(At.lt H.out g (.inl rfl));omega))) aw.out)
     clear o t
     go_wp2
     go_ret2
     rw[L.out]
     refine⟨_,_,rfl,am.out,At.same C.out rfl ?_ rfl ?_ rfl rfl rfl,s.out⟩
     ·show setN (m.object (aobj (j+1))).h 18 _=setN (m.object (aobj arr.length)).h 18 _
      rw[r.out]
     ·show put8 (put8 (m.b++aobj (j+1)) P _) _ _=put8 (put8 (m.b++aobj arr.length) _ _) _ _
      rw[r.out,ak.out]
   ·have L:=yH (show Mk.link m arr n fr item=(Mk.linkOld m arr n item,arr,n-rooms (arr.length-1)+1)by unfold Mk.link;rw[if_neg (by rw[r.out];exact he)])
    have a7:=aD2 HC.out (by rw[r.out];exact he)
    have ae:=aA6 HC.out (aFm HC.out (by rw[r.out];exact he))
    have aR:=(aAE (arr.length-1)).2
    rw[r.out]at a7 ae aR L
    have d0:((n:Int)==((rooms k:Nat):Int))=false:=by simp;omega
    generalize al:rooms (k-1)=d at*
    generalize af:rooms k=rk at*
    generalize roomN (k-1)=R at*
    have a8:=yH af
    have aM:=yH al
    clear af al
    have aj:0<k:=by
     rcases Nat.eq_zero_or_pos k with h|h
     ·have h1:=List.eq_nil_of_length_eq_zero (show arr.length=0 by rw[r.out];exact h)
      have h2:=HC.out.le
      rw[h1]at h2
      exfalso
      have V:n=0:=Nat.le_zero.1 h2
      have h4:=a8.out
      rw[h]at h4
      exact he (V.trans (show 0=rk from h4))
     ·exact h
    obtain⟨j,rfl⟩: ∃j,k=j+1:=⟨k-1,by omega⟩
    obtain⟨b,rfl,ap⟩:=aGa HR.out j (by omega) (arr.getLastD 0) (aCB arr j r.out)
    have ao:arr.getLastD 0≤200000:=by omega
    obtain⟨la,J⟩: ∃x,x=arr.getLastD 0:=⟨_,rfl⟩
    have a6:=yH J
    rw[←J]at ap ae ao
    clear J he
    obtain⟨q,Z⟩: ∃q:Nat,n=d+q:=⟨n-d,by omega⟩
    have aW:=yH (show Mk.linkOld m arr n item={m with b:=put8 m.b (la+24+8*q) item}by unfold Mk.linkOld;rw[←a6.out,r.out,aM.out,Z,Nat.add_sub_cancel_left])
    have HQ:=yH Z
    subst Z
    go_upto_region 16 with(first
     |(go_at_call 83;(refine(aAW (la+24+8*q) _ (by omega) _ wr HA.out (by omega) (by omega)).mono ?_);rintro e w11 ⟨rfl,f,c⟩;have C:=yH f;have s:=yH c;clear f c)
     |fail)
    go_wp2
    go_ret2
    rw[L.out]
    refine⟨_,p,?_,aAX HR.out s.out,?_,s.out⟩
    ·have e:((d+q-d+1:Nat):Int)=(d:Int)+(q:Int)-(d:Int)+1:=by omega
     show Ending.returned (Value.tuple #[.slice (some ⟨b,0,none⟩) (j+1) ca,.int .i64 ((d:Int)+(q:Int)-(d:Int)+1)])=Ending.returned (Value.tuple #[.slice (some ⟨b,0,none⟩) (j+1) ca,.int .i64 ((d+q-d+1:Nat):Int)])
     rw[e]
    ·show At _ _ _ _ (Mk.linkOld m arr (d+q) item)
     rw[aW.out]
     exact C.out
end Nf
end Go.Proofs.YtlelnfokffflnaaGreat
